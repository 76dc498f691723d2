/- Texts of the seat, joined. -/
import Derived.Test.YtcjjckokaiobcaaDoorZz1
import Derived.OrdersIn
import Derived.RangeFuncCalls
import Derived.Laws.Slices
import Derived.Laws.MakeOwn
import Derived.MapKept
import Derived.Carry
/- A walk by computation: what one operation makes, and that it does. -/
namespace Go.Proofs.YtcjjckokaiobcaaDoor
open Go Go.RowKit
set_option linter.unusedSimpArgs false
set_option linter.unusedVariables false
attribute [local irreducible] shf

def idsF : Fn → List Nat
  | .yield l => [l]
  | _ => []
mutual
def idsV : Value → List Nat
  | .pointer (some a) => [a.block]
  | .slice (some a) _ _ => [a.block]
  | .map (some r) => [r]
  | .chan (some r) => [r]
  | .func fn first captured => idsF fn ++ idsA first ++ idsA captured
  | .iface _ v => idsV v
  | .agg cs => idsA cs
  | .tuple vs => idsA vs
  | _ => []
def idsA : Array Value → List Nat
  | ⟨l⟩ => idsL l
def idsL : List Value → List Nat
  | [] => []
  | v :: l => idsV v ++ idsL l
end
def idsO : Obj → List Nat
  | .cells c _ _ => idsA c
  | .loop r => r.defers :: idsA r.tmps
  | .map es _ => es.toList.flatMap fun e => idsV e.val
  | _ => []
/-- The blocks that are met from some on. -/
def reach (H : Hp) : Nat → List Nat → List Nat → List Nat
  | 0, _, seen => seen
  | _ + 1, [], seen => seen
  | n + 1, i :: todo, seen =>
    if seen.contains i then reach H n todo seen
    else match look H i with
      | some o => reach H n (idsO o ++ todo) (i :: seen)
      | none => reach H n todo (i :: seen)
def restrict (H : Hp) (F : List Nat) : Hp := H.filter fun e => F.contains e.1
theorem restrict_sub (H : Hp) (F : List Nat) : Sub (restrict H F) H := by
  intro i o h
  unfold restrict at h
  rw [look_filter (fun k => F.contains k)] at h
  split at h
  · exact h
  · cases h

abbrev CallF := Fn → Array Value → Hp → Ctl → Option (Res × Hp × Ctl)
def CallOK (P : Program) (call : CallF) : Prop := ∀ fn args H c r H' c', call fn args H c = some (r, H', c') →
  (AllP c'.obl → AllP c.obl) ∧ (AllP c'.obl → wfF (domB H) fn = true → wfA (domB H) args = true → CallsV P fn args H r H')

def resOK (p : Nat → Bool) : Res → Bool
  | .ret v => wfV p v
  | .pan _ => true
def Res.mic (H : Hp) : Res → Mic
  | .ret v => { val := v, set := H }
  | .pan ch => { val := undef, set := H, pan := some ch }
def vcall (call : CallF) (H : Hp) (fn : Fn) (args : Array Value) (c : Ctl) : Option (Mic × Hp × Ctl) :=
  let Hr := restrict H (reach H 1000 (idsF fn ++ idsA args) [])
  if closedH Hr && wfF (domB Hr) fn && wfA (domB Hr) args then
    match call fn args Hr c with
    | some (r, H', c') =>
      let H1 := H'.filter fun e => domB Hr e.1
      let H2 := if resOK (domB Hr) r && closedH H1 then H1 else H'
      if resOK (domB H2) r && closedH H2 && (Hr.all fun e => domB H2 e.1) && (H2.all fun e => domB Hr e.1 || !domB H e.1) then some (r.mic H2, Hr, c') else none
    | none => none
  else none

def veffM (P : Program) (H : Hp) (t : List Value) (o : Oper) (c : Ctl) : Option (Mic × Hp × Ctl) :=
  let Hr := touch H (vev t) o
  match veff P Hr (vev t) o with
  | some (.val v) => if wfV (domB H) v then some ({ val := v, set := [] }, Hr, c) else none
  | some (.sto b off vs) =>
    match look Hr b with
    | some (.cells c0 T fr) => some ({ val := undef, set := [(b, .cells (setC c0 off vs) T fr)] }, Hr, c)
    | _ => none
  | some (.new cs T) => if !domB H c.n then some ({ val := .pointer (some ⟨c.n, 0, none⟩), set := [(c.n, .cells cs T (0, 0))] }, Hr, { c with n := c.n + 1 }) else none
  | none => none

/-- What a call comes to. -/
def callFn (ρ : Operand → Value) (c : Call) : Option (Fn × Array Value) :=
  match c.callee with
  | .value f =>
    match ρ f with
    | .func (.func g) first captured => some (.func g, first ++ c.args.map ρ ++ captured)
    | .func (.yield l) first _ => some (.yield l, first ++ c.args.map ρ)
    | _ => none
  | _ => none
def deferFn (ρ : Operand → Value) (c : Call) : Option VDef :=
  match c.callee with
  | .value f =>
    match ρ f with
    | .func (.func g) first captured => some (.fn g captured (first ++ c.args.map ρ))
    | _ => none
  | _ => none
/-- The blocks of the one lie in the other as they lay. -/
def SameL : Hp → Hp → Prop
  | [], _ => True
  | (k, o) :: r, S => look S k = some o ∧ SameL r S
abbrev same1 (o : Obj) : Prop := some o = some o ∧ True
abbrev same2 (o o' : Obj) : Prop := some o = some o ∧ some o' = some o' ∧ True
abbrev same3 (o o' o2 : Obj) : Prop := some o = some o ∧ some o' = some o' ∧ some o2 = some o2 ∧ True
/-- A call of which it is foretold (by the number 2000000) that it leaves the blocks as they lay. -/
def vcallK (call : CallF) (H : Hp) (fn : Fn) (args : Array Value) (c : Ctl) : Option (Mic × Hp × Ctl) :=
  match c.bls with
  | (g, _, _) :: rest =>
    if Nat.beq g 2000000 then
      match vcall call H fn args { c with bls := rest } with
      | some (m, Hr, c') => if (m.set.all fun e => domB Hr e.1) then some ({ m with set := [] }, Hr, { c' with obl := SameL Hr m.set :: c'.obl }) else none
      | none => none
    else vcall call H fn args c
  | [] => vcall call H fn args c
def vgo (P : Program) (call : CallF) (H : Hp) (t : List Value) (o : Oper) (c : Ctl) : Option (Mic × Hp × Ctl) :=
  if o.op.operands.toList.all opdOK then
    match o.op with
    | .call cl =>
      match callFn (vev t) cl with
      | some (.func f, args) => if hasBody P f then vcallK call H (.func f) args c else
        match vext P f args with
        | some (v, b) =>
          match vdec b c with
          | (false, c1) => some ({ val := v, set := [] }, [], c1)
          | (true, _) => none
        | none => veffM P H t o c
      | some (.yield l, args) => vcall call H (.yield l) args c
      | _ => match vapp P H t cl c with | some r => some r | none => match vapq P H t cl c with | some r => some r | none => match vmore P H t o c with | some r => some r | none => match vmapo P H t o c with | some r => some r | none => veffM P H t o c
    | .defer cl =>
      match deferFn (vev t) cl with
      | some d => some ({ val := undef, set := [], dfr := some d }, [], c)
      | none => none
    | .panic x =>
      match vev t x with
      | .iface ty v => if wfV noB v then some ({ val := undef, set := [], pan := some [{ v := .iface ty v, recovered := false }] }, [], c) else none
      | _ => none
    | .buildSlice ty len parts => vslice P H t ty len parts c
    | _ => match vask P H t o c with | some r => some r | none => match vmore P H t o c with | some r => some r | none => match vmapo P H t o c with | some r => some r | none => veffM P H t o c
  else none

/-- Is an operation wanted? The test that tells it is then known. -/
def vwant (ops : Array Oper) (t : List Value) (o : Oper) (c : Ctl) : Option (Bool × List Value × Ctl) :=
  match o.guard with
  | none => some (true, t, c)
  | some (j, want) =>
    match (ops[j]?).bind (·.dst) with
    | some d =>
      match t[d]? with
      | some (.bool b) =>
        match vdec b c with
        | (x, c1) => some (x == want, t.set d (.bool x), c1)
      | some (.tuple _) => some (false, t, c)
      | _ => none
    | none => none
def vmic (P : Program) (call : CallF) (H : Hp) (t : List Value) (o : Oper) (wd : Bool) (c : Ctl) : Option (Mic × Hp × Ctl) :=
  if wd then vgo P call H t o c else some ({ val := undef, set := [] }, [], c)

def Fw (ro : Option Nat) : Fence := match ro with | none => Fence.wide | some l => Fence.wide.inRound l
theorem Fw_round (ro : Option Nat) : (Fw ro).round = ro := by cases ro <;> rfl
theorem Fw_fn (ro : Option Nat) (f : FuncId) : (Fw ro).fn f := by cases ro <;> exact trivial
theorem Fw_depth (ro : Option Nat) : (Fw ro).depth = none := by cases ro <;> rfl
theorem Fw_calls {ro : Option Nat} {n : Nat} {P : Program} {f : FuncId} {args : Array Value} {w : World} {R : Ending → World → Prop} (h : Calls P f args w R) : CallsIn (Fw ro) n P f args w R := by
  cases ro with
  | none => exact callsIn_wide.2 h
  | some l => exact CallsIn.inRound l (callsIn_wide.2 h)
theorem Fw_rounds {ro : Option Nat} {n : Nat} {P : Program} {l : Nat} {f : FuncId} {tmps : Array Value} {assign body : Code} {w : World} {R : Ending → World → Prop} (h : RoundIn Fence.wide n P l f tmps assign body w R) : RoundIn (Fw ro) n P l f tmps assign body w R := by
  cases ro with
  | none => exact h
  | some l => exact h
def dadd : Option VDef → List VDef → List VDef
  | none, D => D
  | some d, D => d :: D

/-- The operation makes this, whatever else has been made. -/
def MicDoes (P : Program) (ops : Array Oper) (o : Oper) (t : List Value) (Hr : Hp) (m : Mic) : Prop :=
  ∀ (ro : Option Nat) (n : Nat) (Q : Exit → Act → World → Prop) (K : Act → World → Prop) (A : Nat → Prop) (w0 : World) (β : Num) (D : List VDef) (t' : List Value) (H' : Hp) (a : Act) (w : World) (i : Nat),
    ops[i]? = some o → RelA A w0 β D t' H' a w → (∀ x ∈ o.looksAt ops, t'[x]? = t[x]?) → Sub Hr H' → (∀ k, domB m.set k = true → domB Hr k = true ∨ domB H' k = false) → wfV (domB (merge m.set H')) m.val = true → (m.dfr.isSome = true → ro = none) →
    (m.pan = none → ∀ β' a' w', (∀ i, domB H' i = true → β' i = β i) → RelA A w0 β' (dadd m.dfr D) (vput t' o.dst m.val) (merge m.set H') a' w' → K a' w') →
    (∀ ch, m.pan = some ch → ∀ β' a' w', (∀ i, domB H' i = true → β' i = β i) → RelA A w0 β' D t' (merge m.set H') a' w' → Q (.panic ch) a' w') → wpOpIn (Fw ro) n P ops Q i K a w

/-- The operation is wanted, whoever looks. -/
def Wants (ops : Array Oper) (o : Oper) (t : List Value) : Prop :=
  ∀ (a : Act) (t' : List Value) (β : Num), a.tmps = (renL β t').toArray → (∀ x ∈ o.looksAt ops, t'[x]? = t[x]?) → Region.wanted o (yielded ops a.tmps) = true

section
variable {P : Program} {ops : Array Oper} {o : Oper}

theorem vev_same {t t' : List Value} (h : ∀ x ∈ o.looksAt ops, t'[x]? = t[x]?) {x : Operand} (hx : x ∈ o.op.operands) : vev t' x = vev t x := by
  cases x with
  | tmp i =>
    simp only [vev, List.getD_eq_getElem?_getD]
    rw [h i (List.mem_append_left _ (List.mem_filterMap.2 ⟨.tmp i, by simpa using hx, rfl⟩))]
  | _ => rfl
theorem vev_wf {p : Nat → Bool} {t : List Value} (h : wfL p t = true) {x : Operand} (hx : opdOK x = true) : wfV p (vev t x) = true := by
  cases x with
  | tmp i =>
    simp only [vev, List.getD_eq_getElem?_getD]
    cases hi : t[i]? with
    | none => rfl
    | some v => exact (wfL_all p t).1 h v (List.mem_of_getElem? hi)
  | const v => exact wfV_mono (p := noB) (fun _ h => (by cases h)) v hx
  | global g => rfl
  | func f => rfl
theorem wf_cells {p : Nat → Bool} {v : Value} (h : wfV p v = true) : wfA p v.cells = true := by
  cases v with
  | agg cs => exact h
  | _ => simp only [Value.cells, wfA, wfL, Bool.and_true]; exact h

theorem merge_nil (H : Hp) : ∀ i, look (merge [] H) i = look H i := fun i => by rw [look_merge]; rfl
theorem look_merge1 (k : Nat) (ob : Obj) (H : Hp) (i : Nat) : look (merge [(k, ob)] H) i = look (hput H k ob) i := by
  rw [look_merge, look_hput]
  simp only [look]
  by_cases h : k = i
  · subst h; simp
  · rw [if_neg h, if_neg (fun e => h e.symm)]

theorem wpOp_want {ro : Option Nat} {n : Nat} {i : Nat} {a : Act} {w : World} {Q : Exit → Act → World → Prop} {K : Act → World → Prop} (hi : ops[i]? = some o) (hw : Region.wanted o (yielded ops a.tmps) = true)
    (h : o.uponIn (Fw ro) n P a K Q ((o.semAt ro a.eval).run P w)) : wpOpIn (Fw ro) n P ops Q i K a w := by
  unfold wpOpIn
  simp only [hi, hw, if_true, Oper.wpIn, Fw_round]
  exact ⟨fun f _ => Fw_fn ro f, h⟩

theorem operand_dec {x : Operand} (h : o.op.operands.toList.all opdOK = true) (hx : x ∈ o.op.operands) : opdOK x = true :=
  List.all_eq_true.1 h x (by simpa using hx)

theorem veff_sto_wf {Hr : Hp} {t : List Value} {p : Nat → Bool} (ht : wfL p t = true) (hall : o.op.operands.toList.all opdOK = true) {b off : Nat} {vs : List Value} (h : veff P Hr (vev t) o = some (.sto b off vs)) : wfL p vs = true := by
  obtain ⟨dst, op, type, pos, after, guard⟩ := o
  cases op with
  | store ty x y =>
    simp only [veff] at h
    repeat' split at h
    all_goals first
      | (cases h; done)
      | (simp only [Option.some.injEq, Eff.sto.injEq] at h
         obtain ⟨_, _, rfl⟩ := h
         rw [← wfA_list]
         exact wf_cells (vev_wf ht (operand_dec hall (by simp [Op.operands]))))
  | load ty x =>
    simp only [veff] at h
    repeat' split at h
    all_goals first
      | (cases h; done)
      | (simp only [Option.map_eq_some_iff] at h
         obtain ⟨_, _, h⟩ := h
         cases h)
  | alloc ty =>
    simp only [veff] at h
    try unfold veffCall at h
    repeat' split at h
    all_goals (cases h; done)
  | box ty x => simp only [veff] at h; cases h
  | select cs bl => simp only [veff] at h; cases h
  | pick x y z =>
    simp only [veff] at h
    try unfold veffCall at h
    repeat' split at h
    all_goals (cases h; done)
  | binOp bo bt x y bty =>
    cases bo
    all_goals
      simp only [veff] at h
      repeat' split at h
      all_goals (cases h; done)
  | call cl =>
    simp only [veff, veffCall] at h
    repeat' split at h
    all_goals (cases h; done)
  | _ =>
    simp only [veff] at h
    try unfold veffCall at h
    repeat' split at h
    all_goals (cases h; done)
theorem veff_new_wf {Hr : Hp} {t : List Value} {p : Nat → Bool} (ht : wfL p t = true) (hall : o.op.operands.toList.all opdOK = true) {cs : Array Value} {T : TypeId} (h : veff P Hr (vev t) o = some (.new cs T)) : wfA p cs = true := by
  obtain ⟨dst, op, type, pos, after, guard⟩ := o
  cases op with
  | store ty x y =>
    simp only [veff] at h
    try unfold veffCall at h
    repeat' split at h
    all_goals (cases h; done)
  | load ty x =>
    simp only [veff] at h
    repeat' split at h
    all_goals first
      | (cases h; done)
      | (simp only [Option.map_eq_some_iff] at h
         obtain ⟨_, _, h⟩ := h
         cases h)
  | alloc ty =>
    simp only [veff] at h
    repeat' split at h
    all_goals first
      | (cases h; done)
      | (rename_i hp
         simp only [Option.some.injEq, Eff.new.injEq] at h
         obtain ⟨rfl, rfl⟩ := h
         exact wfA_mono (p := noB) (fun _ h => (by cases h)) _ hp)
  | box ty x =>
    simp only [veff, Option.some.injEq, Eff.new.injEq] at h
    obtain ⟨rfl, rfl⟩ := h
    exact wf_cells (vev_wf ht (operand_dec hall (by simp [Op.operands])))
  | select cs bl => simp only [veff] at h; cases h
  | pick x y z =>
    simp only [veff] at h
    try unfold veffCall at h
    repeat' split at h
    all_goals (cases h; done)
  | binOp bo bt x y bty =>
    cases bo
    all_goals
      simp only [veff] at h
      repeat' split at h
      all_goals (cases h; done)
  | call cl =>
    simp only [veff, veffCall] at h
    repeat' split at h
    all_goals (cases h; done)
  | _ =>
    simp only [veff] at h
    try unfold veffCall at h
    repeat' split at h
    all_goals (cases h; done)

theorem veff_sto_le {Hr : Hp} {t : List Value} {b off : Nat} {vs : List Value} (h : veff P Hr (vev t) o = some (.sto b off vs)) {c0 : Array Value} {T : TypeId} {fr : Nat × Nat} (hb : look Hr b = some (.cells c0 T fr)) : off + vs.length ≤ c0.size ∧ winO (.cells c0 T fr) = false := by
  obtain ⟨dst, op, type, pos, after, guard⟩ := o
  cases op with
  | store ty x y =>
    simp only [veff] at h
    split at h
    · split at h
      · rename_i hb'
        split at h
        · split at h
          · rename_i hc
            simp only [Option.some.injEq, Eff.sto.injEq] at h
            obtain ⟨rfl, rfl, rfl⟩ := h
            rw [hb] at hb'
            simp only [Option.some.injEq, Obj.cells.injEq] at hb'
            obtain ⟨rfl, rfl, rfl⟩ := hb'
            rw [Array.length_toList]
            exact ⟨hc.2.1, hc.2.2.2⟩
          · cases h
        · cases h
      · cases h
    · cases h
  | load ty x =>
    simp only [veff] at h
    repeat' split at h
    all_goals first
      | (cases h; done)
      | (simp only [Option.map_eq_some_iff] at h
         obtain ⟨_, _, h⟩ := h
         cases h)
  | alloc ty =>
    simp only [veff] at h
    try unfold veffCall at h
    repeat' split at h
    all_goals (cases h; done)
  | box ty x => simp only [veff] at h; cases h
  | select cs bl => simp only [veff] at h; cases h
  | pick x y z =>
    simp only [veff] at h
    try unfold veffCall at h
    repeat' split at h
    all_goals (cases h; done)
  | binOp bo bt x y bty =>
    cases bo
    all_goals
      simp only [veff] at h
      repeat' split at h
      all_goals (cases h; done)
  | call cl =>
    simp only [veff, veffCall] at h
    repeat' split at h
    all_goals (cases h; done)
  | _ =>
    simp only [veff] at h
    try unfold veffCall at h
    repeat' split at h
    all_goals (cases h; done)
theorem veffM_does {H : Hp} {t : List Value} {c c' : Ctl} {m : Mic} {Hr : Hp} (hall : o.op.operands.toList.all opdOK = true) (h : veffM P H t o c = some (m, Hr, c')) :
    c'.obl = c.obl ∧ Sub Hr H ∧ (∀ k, domB m.set k = true → domB Hr k = true ∨ domB H k = false) ∧ (Wants ops o t → MicDoes P ops o t Hr m) := by
  have hsub : Sub (touch H (vev t) o) H := touch_sub H (vev t) o
  have hnd : ∀ c, o.op ≠ .defer c := by
    intro cl hc
    unfold veffM at h
    have he : veff P (touch H (vev t) o) (vev t) o = none := by
      obtain ⟨dst, op, type, pos, after, guard⟩ := o
      simp only at hc
      subst hc
      simp only [veff]
      split
      · rename_i u hu
        exfalso
        simp only [execOp, calm_bind] at hu
        cases hq : calm P (resolve (vev t) cl type) with
        | none => rw [hq] at hu; cases hu
        | some d => rw [hq] at hu; cases hu
      · rfl
    simp only [he] at h
    cases h
  unfold veffM at h
  cases he : veff P (touch H (vev t) o) (vev t) o with
  | none => simp only [he] at h; cases h
  | some e =>
    have run : ∀ {A : Nat → Prop} {w0 : World} {β : Num} {D : List VDef} {t' : List Value} {H' : Hp} {a : Act} {w : World}, RelA A w0 β D t' H' a w → (∀ x ∈ o.looksAt ops, t'[x]? = t[x]?) → Sub (touch H (vev t) o) H' → EffRun P β w (execOp a.eval o) e := by
      intro A w0 β D t' H' a w hR ht hs
      refine eff_run hR.rel (veff_sub hs he) (fun x hx => ?_)
      rw [hR.eval (operand_dec hall hx), vev_same ht hx]
    simp only [he] at h
    cases e with
    | val v =>
      simp only at h
      split at h
      · simp only [Option.some.injEq, Prod.mk.injEq] at h
        obtain ⟨rfl, rfl, rfl⟩ := h
        refine ⟨rfl, hsub, ?FR, ?_⟩
        rotate_left
        intro hwant ro n Q K A w0 β D t' H' a w i hi hR ht hs hf hv hdr hK hP
        refine wpOp_want hi (hwant a t' β hR.tm ht) ?_
        have hrun := run hR ht hs
        simp only [EffRun] at hrun
        rw [Oper.semAt_eq _ _ _ hnd, hrun]
        have hl := merge_nil H'
        have hd : ∀ i, domB (merge [] H') i = domB H' i := fun i => by unfold domB; rw [hl]
        exact hK rfl β _ w (fun _ _ => rfl) (hR.put (fun _ _ => rfl) (fun i hi => by rw [hd]; exact hi) (hR.rel.congr (fun _ _ => rfl) hl) o.dst hv)
        case FR => exact fun k hk => (by cases hk)
      · cases h
    | sto b off vs =>
      simp only at h
      split at h
      · rename_i c0 T fr hb
        simp only [Option.some.injEq, Prod.mk.injEq] at h
        obtain ⟨rfl, rfl, rfl⟩ := h
        refine ⟨rfl, hsub, ?FR, ?_⟩
        rotate_left
        intro hwant ro n Q K A w0 β D t' H' a w i hi hR ht hs hf hv hdr hK hP
        refine wpOp_want hi (hwant a t' β hR.tm ht) ?_
        have hrun := run hR ht hs
        simp only [EffRun] at hrun
        rw [Oper.semAt_eq _ _ _ hnd, hrun]
        have hvs : wfL (domB H') vs = true := by
          have he' : veff P (touch H (vev t) o) (vev t') o = some (.sto b off vs) := by
            rw [← he]
            have hcon : ∀ x ∈ o.op.operands, vev t' x = vev t x := fun x hx => vev_same ht hx
            obtain ⟨dst, op, type, pos, after, guard⟩ := o
            cases op with
            | store ty x y => simp only [veff, hcon x (by simp [Op.operands]), hcon y (by simp [Op.operands])]
            | load ty x => simp only [veff, hcon x (by simp [Op.operands])]
            | box ty x => simp only [veff, hcon x (by simp [Op.operands])]
            | alloc ty => rfl
            | select cs bl => rfl
            | binOp bo bt x y bty =>
              exfalso
              cases bo
              all_goals
                simp only [veff] at he
                repeat' split at he
                all_goals (cases he; done)
            | _ =>
              exfalso
              simp only [veff] at he
              try unfold veffCall at he
              repeat' split at he
              all_goals (cases he; done)
          exact veff_sto_wf hR.wt hall he'
        have hl := look_merge1 b (.cells (setC c0 off vs) T fr) H'
        have hd : ∀ i, domB (merge [(b, .cells (setC c0 off vs) T fr)] H') i = domB (hput H' b (.cells (setC c0 off vs) T fr)) i := fun i => by unfold domB; rw [hl]
        have hRs := hR.rel.sto (hs b _ hb) (veff_sto_le he hb).2 off (veff_sto_le he hb).1 hvs
        exact hK rfl β _ _ (fun _ _ => rfl) (hR.put (fun _ _ => rfl) (fun i hi => by rw [hd, domB_hput, hi, Bool.or_true]) (hRs.congr (fun _ _ => rfl) hl) o.dst (v := undef) rfl)
        case FR =>
          intro k hk
          unfold domB at hk
          simp only [look] at hk
          split at hk
          · rename_i e; rw [← e]; exact .inl (domB_of hb)
          · cases hk
      · cases h
    | new cs T =>
      simp only at h
      split at h
      · rename_i hn
        simp only [Option.some.injEq, Prod.mk.injEq] at h
        obtain ⟨rfl, rfl, rfl⟩ := h
        refine ⟨rfl, hsub, ?FR, ?_⟩
        rotate_left
        intro hwant ro n Q K A w0 β D t' H' a w i hi hR ht hs hf hv hdr hK hP
        refine wpOp_want hi (hwant a t' β hR.tm ht) ?_
        have hrun := run hR ht hs
        simp only [EffRun] at hrun
        rw [Oper.semAt_eq _ _ _ hnd, hrun]
        have hob : wfO (domB H') (.cells cs T (0, 0)) = true := by
          have he' : veff P (touch H (vev t) o) (vev t') o = some (.new cs T) := by
            rw [← he]
            have hcon : ∀ x ∈ o.op.operands, vev t' x = vev t x := fun x hx => vev_same ht hx
            obtain ⟨dst, op, type, pos, after, guard⟩ := o
            cases op with
            | store ty x y => simp only [veff, hcon x (by simp [Op.operands]), hcon y (by simp [Op.operands])]
            | load ty x => simp only [veff, hcon x (by simp [Op.operands])]
            | box ty x => simp only [veff, hcon x (by simp [Op.operands])]
            | alloc ty => rfl
            | select cs bl => rfl
            | binOp bo bt x y bty =>
              exfalso
              cases bo
              all_goals
                simp only [veff] at he
                repeat' split at he
                all_goals (cases he; done)
            | _ =>
              exfalso
              simp only [veff] at he
              try unfold veffCall at he
              repeat' split at he
              all_goals (cases he; done)
          simp only [wfO, Bool.and_eq_true]
          exact ⟨veff_new_wf hR.wt hall he', by decide⟩
        have hn' : domB H' c.n = false := by
          rcases hf c.n (by simp [domB, look]) with h1 | h1
          · obtain ⟨x, hx⟩ := domB_iff.1 h1
            have := domB_of (hsub _ _ hx)
            rw [this] at hn
            cases hn
          · exact h1
        have hl := look_merge1 c.n (.cells cs T (0, 0)) H'
        have hd : ∀ i, domB (merge [(c.n, .cells cs T (0, 0))] H') i = domB (hput H' c.n (.cells cs T (0, 0))) i := fun i => by unfold domB; rw [hl]
        have hRs := hR.rel.new hn' hob (x := .cells (renA β cs) T (0, 0)) (cap := 0) lies_cells
        have hag : ∀ i, domB H' i = true → upd1 β c.n (w.heap.size, 0) i = β i := fun i hi => upd1_ne (fun e => by rw [e, hn'] at hi; cases hi)
        have := hR.put (v := .pointer (some ⟨c.n, 0, none⟩)) hag (fun i hi => by rw [hd, domB_hput, hi, Bool.or_true]) (hRs.congr (fun _ _ => rfl) hl) o.dst (by simp [wfV, hd, domB_hput])
        have e : ren (upd1 β c.n (w.heap.size, 0)) (.pointer (some ⟨c.n, 0, none⟩)) = .pointer (some ⟨w.heap.size, 0, none⟩) := by simp [ren, renP, upd1_self, shf_zero]
        rw [e] at this
        exact hK rfl _ _ _ hag this
        case FR =>
          intro k hk
          unfold domB at hk
          simp only [look] at hk
          split at hk
          · rename_i e; rw [← e]; exact .inr (by simpa using hn)
          · cases hk
      · cases h

theorem callFn_func {ρ : Operand → Value} {cl : Call} {f : FuncId} {args : Array Value} (h : callFn ρ cl = some (.func f, args)) : callArgs ρ cl = some (f, args) := by
  unfold callFn at h
  unfold callArgs
  cases hc : cl.callee with
  | value g =>
    simp only [hc] at h ⊢
    split at h
    · rename_i g' first cap hg
      simp only [Option.some.injEq, Prod.mk.injEq, Fn.func.injEq] at h
      obtain ⟨rfl, rfl⟩ := h
      rw [hg]
      rfl
    · simp only [Option.some.injEq, Prod.mk.injEq] at h
      obtain ⟨h, _⟩ := h
      cases h
    · cases h
  | _ => rw [hc] at h; cases h
theorem yield_run {β : Num} {ρ : Operand → Value} {cl : Call} (ho : o.op = .call cl) {l : Nat} {args : Array Value} (h : callFn ρ cl = some (.yield l, args)) {w : World} {lp : Nat} {fn : FuncId} {tmps : Array Value} {assign body : Code}
    (hy : (Instr.yield (β l).1 (renA β args)).run P w = .ok (.round lp fn tmps assign body) w) :
    (execOp (fun x => ren β (ρ x)) o).run P w = .ok (.round lp fn tmps assign body) w := by
  obtain ⟨dst, op, type, pos, after, guard⟩ := o
  simp only at ho
  subst ho
  unfold callFn at h
  cases hc : cl.callee with
  | value g =>
    simp only [hc] at h
    split at h
    · simp only [Option.some.injEq, Prod.mk.injEq] at h
      obtain ⟨h, _⟩ := h
      cases h
    · rename_i l' first cap hg
      simp only [Option.some.injEq, Prod.mk.injEq, Fn.yield.injEq] at h
      obtain ⟨rfl, rfl⟩ := h
      simp only [execOp, Sem.run_bind, resolve, hc, hg, ren, renF, Deferred.ofValue, Sem.run_pure, Result.andThen_ok, invoke]
      rw [← hy, renA_map, renA_map, Array.map_append, Array.map_map]
      rfl
    · cases h
  | _ => rw [hc] at h; cases h
theorem callFn_wf {t : List Value} {p : Nat → Bool} (ht : wfL p t = true) {cl : Call} (ho : o.op = .call cl) (hall : o.op.operands.toList.all opdOK = true) {fn : Fn} {args : Array Value} (h : callFn (vev t) cl = some (fn, args)) : wfF p fn = true ∧ wfA p args = true := by
  have hargs : ∀ x ∈ cl.args, wfV p (vev t x) = true := fun x hx => vev_wf ht (operand_dec hall (by rw [ho]; simp [Op.operands, Call.operands, hx]))
  have hmap : wfA p (cl.args.map (vev t)) = true := by
    rw [wfA_list, wfL_all]
    intro v hv
    simp only [Array.toList_map, List.mem_map] at hv
    obtain ⟨x, hx, rfl⟩ := hv
    exact hargs x (by simpa using hx)
  have happ : ∀ a b : Array Value, wfA p a = true → wfA p b = true → wfA p (a ++ b) = true := fun a b ha hb => by
    rw [wfA_list, wfL_all] at *
    intro v hv
    rw [Array.toList_append, List.mem_append] at hv
    exact hv.elim (ha v) (hb v)
  unfold callFn at h
  cases hc : cl.callee with
  | value g =>
    have hg := vev_wf ht (operand_dec hall (x := g) (by rw [ho]; simp [Op.operands, Call.operands, hc]))
    simp only [hc] at h
    split at h
    · rename_i g' first cap hg'
      simp only [Option.some.injEq, Prod.mk.injEq] at h
      obtain ⟨rfl, rfl⟩ := h
      rw [hg'] at hg
      simp only [wfV, Bool.and_eq_true] at hg
      exact ⟨rfl, happ _ _ (happ _ _ hg.1.2 hmap) hg.2⟩
    · rename_i l first cap hg'
      simp only [Option.some.injEq, Prod.mk.injEq] at h
      obtain ⟨rfl, rfl⟩ := h
      rw [hg'] at hg
      simp only [wfV, Bool.and_eq_true] at hg
      exact ⟨hg.1.1, happ _ _ hg.1.2 hmap⟩
    · cases h
  | _ => rw [hc] at h; cases h

theorem memK (G : Hp) (i : Nat) : domB G i = true → ∃ e ∈ G, e.1 = i := by
  induction G with
  | nil => intro h; cases h
  | cons e r ih =>
    obtain ⟨k, x⟩ := e
    intro hi
    unfold domB at hi
    simp only [look] at hi
    by_cases hk : k = i
    · exact ⟨(k, x), List.mem_cons_self, hk⟩
    · rw [if_neg hk] at hi
      obtain ⟨e, he, hei⟩ := ih hi
      exact ⟨e, List.mem_cons_of_mem _ he, hei⟩

theorem vcall_spec {call : CallF} (hcall : CallOK P call) {H : Hp} {c c' : Ctl} {m : Mic} {Hr : Hp} {fn : Fn} {args : Array Value} (h : vcall call H fn args c = some (m, Hr, c')) :
    (AllP c'.obl → AllP c.obl) ∧ Sub Hr H ∧ (∀ k, domB m.set k = true → domB Hr k = true ∨ domB H k = false) ∧ m.dfr = none ∧
    (AllP c'.obl → ∃ r H' , CallsV P fn args Hr r H' ∧ m = r.mic m.set ∧ Sub m.set H' ∧ closedH m.set = true ∧ closedH Hr = true ∧ (∀ i, domB Hr i = true → domB m.set i = true) ∧ resOK (domB m.set) r = true) := by
  unfold vcall at h
  simp only at h
  generalize hHr : restrict H (reach H 1000 (idsF fn ++ idsA args) []) = Hr0 at h
  have hsub : Sub Hr0 H := by rw [← hHr]; exact restrict_sub _ _
  split at h
  · rename_i hcl
    simp only [Bool.and_eq_true] at hcl
    split at h
    · rename_i r H' c1 hc
      generalize hH2 : (if (resOK (domB Hr0) r && closedH (H'.filter fun e => domB Hr0 e.1)) = true then H'.filter fun e => domB Hr0 e.1 else H') = H2 at h
      split at h
      · rename_i hchk
        simp only [Bool.and_eq_true] at hchk
        obtain ⟨⟨⟨hwv, hcl2⟩, hd1⟩, hd2⟩ := hchk
        simp only [Option.some.injEq, Prod.mk.injEq] at h
        obtain ⟨rfl, rfl, rfl⟩ := h
        obtain ⟨hm, hdo⟩ := hcall _ _ _ _ _ _ _ hc
        have hset : (r.mic H2).set = H2 := by cases r <;> rfl
        have hdfr : (r.mic H2).dfr = none := by cases r <;> rfl
        have hH2s : Sub H2 H' := by
          rw [← hH2]
          split
          · intro i x hx
            rw [look_filter (fun k => domB Hr0 k)] at hx
            split at hx
            · exact hx
            · cases hx
          · exact fun _ _ h => h
        rw [hset]
        refine ⟨hm, hsub, fun k hk => ?_, hdfr, fun hobl => ⟨r, H', hdo hobl hcl.1.2 hcl.2, rfl, hH2s, hcl2, hcl.1.1, fun i hi => ?_, hwv⟩⟩
        · obtain ⟨e, he, rfl⟩ := memK _ _ hk
          have := List.all_eq_true.1 hd2 e he
          rw [Bool.or_eq_true, Bool.not_eq_true'] at this
          exact this
        · obtain ⟨e, he, rfl⟩ := memK _ _ hi
          exact List.all_eq_true.1 hd1 e he
      · cases h
    · cases h
  · cases h

theorem vcall_does {call : CallF} (hcall : CallOK P call) {H : Hp} {t : List Value} {c c' : Ctl} {m : Mic} {Hr : Hp} {cl : Call} (ho : o.op = .call cl) (hall : o.op.operands.toList.all opdOK = true) {fn : Fn} {args : Array Value}
    (hargs : callFn (vev t) cl = some (fn, args)) (hb : ∀ f, fn = .func f → hasBody P f = true) (h : vcall call H fn args c = some (m, Hr, c')) :
    (AllP c'.obl → AllP c.obl) ∧ Sub Hr H ∧ (∀ k, domB m.set k = true → domB Hr k = true ∨ domB H k = false) ∧ (AllP c'.obl → Wants ops o t → MicDoes P ops o t Hr m) := by
  obtain ⟨s1, s2, s3, s4, s5⟩ := vcall_spec hcall h
  refine ⟨s1, s2, s3, fun hobl hwant => ?_⟩
  obtain ⟨r, H', hcv, hmr, hms, hcl2, hclr, hdom1, hwr⟩ := s5 hobl
  have hnd : ∀ c, o.op ≠ .defer c := fun c e => by rw [ho] at e; cases e
  intro ro n Q K A w0 β D t' Hx a w i hi hR ht hs hf hv hdr hK hP
  refine wpOp_want hi (hwant a t' β hR.tm ht) ?_
  rw [Oper.semAt_eq _ _ _ hnd, execOp_of (P := P) (ρ' := a.eval) (ρ := vev t) (o := o) (fun cs b e => by rw [ho] at e; cases e) (fun x hx => by rw [hR.eval (operand_dec hall hx), vev_same ht hx])]
  -- behind the call
  have back : ∀ (e : Ending) (w' : World), (∃ β', (∀ i, domB Hr i = true → β' i = β i) ∧ e = r.out β' ∧ Rel (rng β Hr) w β' H' w') →
      (match e with
        | .returned v => K (a.put o.dst v) w'
        | .panicked chain => Q (.panic chain) a w'
        | .outgrown => LetsOut Q) := by
    rintro e w' ⟨β', hx, rfl, hk⟩
    have hk2 := hk.part hms hcl2
    obtain ⟨hb1, hb2⟩ := hR.rel.back hs hk2 hx hdom1 (fun i hi => hf i hi)
    have hset : (r.mic m.set).set = m.set := by cases r <;> rfl
    cases r with
    | ret v =>
      simp only [Res.out]
      have hmv : m.val = v := by rw [hmr]; rfl
      have hmd : m.dfr = none := by rw [hmr]; rfl
      have hmp : m.pan = none := by rw [hmr]; rfl
      rw [hmv] at hv
      have hvr : ren (fun i => if domB Hx i = true then β i else β' i) v = ren β' v := ren_congr hb2 v hwr
      have := hR.put (γ := fun i => if domB Hx i = true then β i else β' i) (fun i hi => if_pos hi) (fun i hi => by rw [domB_merge, hi, Bool.or_true]) hb1 o.dst (v := v) hv
      rw [hvr] at this
      refine hK hmp (fun i => if domB Hx i = true then β i else β' i) _ _ (fun i hi => if_pos hi) ?_
      rw [hmd, hmv]
      exact this
    | pan ch =>
      simp only [Res.out]
      have hmp : m.pan = some ch := by rw [hmr]; rfl
      refine hP ch hmp (fun i => if domB Hx i = true then β i else β' i) a w' (fun i hi => if_pos hi) ?_
      have hdx : ∀ i, domB Hx i = true → domB (merge m.set Hx) i = true := fun i hi => by rw [domB_merge, hi, Bool.or_true]
      exact ⟨by rw [hR.tm, renL_congr (fun i hi => (if_pos hi).symm) t' hR.wt], by rw [hR.df, renDs_congr (fun i hi => (if_pos hi).symm) hR.wd], wfL_mono hdx _ hR.wt, wfDs_mono hdx hR.wd, hb1⟩
  have hcv1 := hcv β w (hR.rel.sub hs hclr)
  cases fn with
  | func f =>
    have hrun := call_run (P := P) (β := β) ho (callFn_func hargs) (hb f rfl) w
    rw [hrun]
    simp only [Oper.uponIn]
    refine ⟨(fun h0 => (by rw [Fw_depth] at h0; cases h0)), Fw_calls (hcv1.mono (fun e w' he => ?_))⟩
    have := back e w' he
    cases e <;> exact this
  | yield l =>
    obtain ⟨fn, tmps, assign, body, hy, hround⟩ := hcv1 (n - 1)
    have hrun := yield_run (P := P) (β := β) ho hargs hy
    rw [hrun]
    simp only [Oper.uponIn]
    refine ⟨(fun h0 => (by rw [Fw_depth] at h0; cases h0)), Fw_rounds (hround.mono (fun e w' he => ?_))⟩
    have := back e w' he
    cases e <;> exact this
  | _ => exact hcv1.elim
theorem sameL_sub : ∀ {G S : Hp}, SameL G S → Sub G S
  | [], _, _ => fun _ _ h => (by cases h)
  | (k, x) :: r, S, h => fun i y hy => by
    simp only [look] at hy
    by_cases hk : k = i
    · subst hk
      rw [if_pos rfl] at hy
      rw [← hy]
      exact h.1
    · rw [if_neg hk] at hy
      exact sameL_sub h.2 i y hy
theorem MicDoes.still {t : List Value} {Hr : Hp} {m : Mic} (h : MicDoes P ops o t Hr m) (hS : Sub Hr m.set) (hd : ∀ k, domB m.set k = true → domB Hr k = true) : MicDoes P ops o t Hr { m with set := [] } := by
  intro ro n Q K A w0 β D t' H' a w i hi hR ht hs hf hv hdr hK hP
  have hl : ∀ k, look (merge [] H') k = look (merge m.set H') k := fun k => by
    rw [merge_nil, look_merge]
    cases hx : look m.set k with
    | none => rfl
    | some x =>
      obtain ⟨y, hy⟩ := domB_iff.1 (hd k (domB_of hx))
      have h1 := hS k y hy
      rw [hx] at h1
      rw [hs k y hy, ← h1]
  have hdm : ∀ k, domB (merge m.set H') k = domB (merge [] H') k := fun k => by unfold domB; rw [hl]
  have turn : ∀ {γ : Num} {D0 : List VDef} {t0 : List Value} {a' : Act} {w' : World}, RelA A w0 γ D0 t0 (merge m.set H') a' w' → RelA A w0 γ D0 t0 (merge [] H') a' w' := fun hR' =>
    ⟨hR'.tm, hR'.df, wfL_mono (fun k hk => by rw [← hdm]; exact hk) _ hR'.wt, wfDs_mono (fun k hk => by rw [← hdm]; exact hk) hR'.wd, hR'.rel.congr (fun _ _ => rfl) hl⟩
  exact h ro n Q K A w0 β D t' H' a w i hi hR ht hs (fun k hk => .inl (hd k hk)) (wfV_mono (fun k hk => by rw [hdm]; exact hk) _ hv) hdr
    (fun hp β' a' w' hb hR' => hK hp β' a' w' hb (turn hR')) (fun ch hp β' a' w' hb hR' => hP ch hp β' a' w' hb (turn hR'))
theorem vcallK_does {call : CallF} (hcall : CallOK P call) {H : Hp} {t : List Value} {c c' : Ctl} {m : Mic} {Hr : Hp} {cl : Call} (ho : o.op = .call cl) (hall : o.op.operands.toList.all opdOK = true) {fn : Fn} {args : Array Value}
    (hargs : callFn (vev t) cl = some (fn, args)) (hb : ∀ f, fn = .func f → hasBody P f = true) (h : vcallK call H fn args c = some (m, Hr, c')) :
    (AllP c'.obl → AllP c.obl) ∧ Sub Hr H ∧ (∀ k, domB m.set k = true → domB Hr k = true ∨ domB H k = false) ∧ (AllP c'.obl → Wants ops o t → MicDoes P ops o t Hr m) := by
  unfold vcallK at h
  split at h
  · split at h
    · split at h
      · rename_i m0 Hr0 c0 hc
        split at h
        · rename_i hd
          simp only [Option.some.injEq, Prod.mk.injEq] at h
          obtain ⟨rfl, rfl, rfl⟩ := h
          obtain ⟨h1, h2, h3, h4⟩ := vcall_does (ops := ops) hcall ho hall hargs hb hc
          refine ⟨fun z => h1 z.2, h2, fun k hk => (by cases hk), fun z hw => (h4 z.2 hw).still (sameL_sub z.1) (fun k hk => ?_)⟩
          obtain ⟨e, he, rfl⟩ := memK _ _ hk
          exact List.all_eq_true.1 hd e he
        · cases h
      · cases h
    · exact vcall_does hcall ho hall hargs hb h
  · exact vcall_does hcall ho hall hargs hb h
end

end Go.Proofs.YtcjjckokaiobcaaDoor

/- A walk by computation: that new rows and appended rows come so. -/
namespace Go.Proofs.YtcjjckokaiobcaaDoor
open Go Go.RowKit
set_option linter.unusedSimpArgs false
set_option linter.unusedVariables false
attribute [local irreducible] shf

section
variable {P : Program} {ops : Array Oper} {o : Oper}

theorem buildSlice_run (w : World) (t e : TypeId) (len : Nat) (parts : Array (Nat × Value)) (cells : Array Value) (ie : TypeInfo) (z : Value)
    (hu : P.underlying t = some (.slice e)) (hie : P.info? e = some ie) (hz : ie.zero = some z) (hsmall : len * ie.size ≤ 16777216)
    (h : Instr.fill (fun i => some (i * ie.size, ie.size)) ((Array.range (len * ie.size)).map (z.cells[· % z.cells.size]!)) parts.toList = some cells) :
    (Instr.buildSlice t len parts).run P w = .ok (.slice (some ⟨w.heap.size, 0, none⟩) len len) (w.alloc (.cells cells e)) := by
  have h1 : ¬ (16777216 < len * ie.size) := by omega
  simp only [Instr.buildSlice, Sem.run_bind, run_underlying hu, sizeOf, typeInfo, zeroValue, hie, hz]
  by_cases h2 : len * ie.size = 0
  · rw [h2] at h
    simp only [Array.range_zero', List.map_nil, Array.map_empty] at h
    simp [hie, hz, h1, h2, h, newRow, Array.range_zero']
  · simp [hie, hz, h1, h2, h, newRow]

theorem slice_does {H : Hp} {t : List Value} {c c' : Ctl} {m : Mic} {Hr : Hp} {ty : TypeId} {len : Nat} {parts : Array (Nat × Operand)} (ho : o.op = .buildSlice ty len parts) (hall : o.op.operands.toList.all opdOK = true) (h : vslice P H t ty len parts c = some (m, Hr, c')) :
    c'.obl = c.obl ∧ Sub Hr H ∧ (∀ k, domB m.set k = true → domB Hr k = true ∨ domB H k = false) ∧ (Wants ops o t → MicDoes P ops o t Hr m) := by
  unfold vslice at h
  split at h
  case h_2 => cases h
  rename_i e hu
  split at h
  case h_2 => cases h
  rename_i ie hie
  split at h
  case h_2 => cases h
  rename_i z hz
  split at h
  case h_2 => cases h
  rename_i cs hcs
  split at h
  case isFalse => cases h
  rename_i hc
  obtain ⟨hsmall, hzp, hn, hcap⟩ := hc
  simp only [Option.some.injEq, Prod.mk.injEq] at h
  obtain ⟨rfl, rfl, rfl⟩ := h
  have hlc : len ≠ capU := fun e => by rw [e] at hcap; simp at hcap
  refine ⟨rfl, fun _ _ h => (by cases h), ?FR, ?_⟩
  rotate_left
  intro hwant ro n Q K A w0 β D t' H' a w i hi hR ht hs hf hv hdr hK hP
  refine wpOp_want hi (hwant a t' β hR.tm ht) ?_
  have hnd : ∀ c, o.op ≠ .defer c := fun c e => by rw [ho] at e; cases e
  have hops : ∀ p ∈ parts.toList, opdOK p.2 = true ∧ p.2 ∈ o.op.operands := fun p hp => by
    have hm : p.2 ∈ o.op.operands := by
      rw [ho]
      simp only [Op.operands, List.mem_toArray, List.mem_map]
      exact ⟨p, hp, rfl⟩
    exact ⟨operand_dec hall hm, hm⟩
  have hrun : (execOp a.eval o).run P w = .ok (.value (.slice (some ⟨w.heap.size, 0, none⟩) len len)) (w.alloc (.cells (renA β cs) e)) := by
    have e1 := vfill_ren β ie.size _ _ _ hcs
    rw [renA_plain β hzp, List.map_map] at e1
    have e2 := fill_vfill ie.size _ _ _ e1
    rw [zrow_is] at e2
    have e3 : (parts.map fun (p : Nat × Operand) => (p.1, a.eval p.2)).toList = parts.toList.map ((fun p => (p.1, ren β p.2)) ∘ fun p => (p.1, vev t p.2)) := by
      rw [Array.toList_map]
      refine List.map_congr_left (fun p hp => ?_)
      simp only [Function.comp]
      rw [hR.eval (hops p hp).1, vev_same ht (hops p hp).2]
    rw [← e3] at e2
    have e4 := buildSlice_run (P := P) w ty e len _ _ ie z hu hie hz hsmall e2
    obtain ⟨dst, op, type, pos, after, guard⟩ := o
    simp only at ho
    subst ho
    simp only [execOp, Sem.run_bind, e4, Result.andThen_ok]
    rfl
  rw [Oper.semAt_eq _ _ _ hnd, hrun]
  have hn' : domB H' c.n = false := by
    rcases hf c.n (by simp [domB, look]) with h1 | h1
    · cases h1
    · exact h1
  have hob : wfO (domB H') (.cells cs e (0, 0)) = true := by
    simp only [wfO, Bool.and_eq_true]
    refine ⟨vfill_wf _ _ _ _ _ hcs (wfA_mono (p := noB) (fun _ h => (by cases h)) _ hzp) (fun x hx => ?_), by decide⟩
    obtain ⟨p, hp, rfl⟩ := List.mem_map.1 hx
    simp only
    rw [← vev_same ht (hops p hp).2]
    exact wf_cells (vev_wf hR.wt (hops p hp).1)
  have hl := look_merge1 c.n (.cells cs e (0, 0)) H'
  have hd : ∀ i, domB (merge [(c.n, .cells cs e (0, 0))] H') i = domB (hput H' c.n (.cells cs e (0, 0))) i := fun i => by unfold domB; rw [hl]
  have hRs := hR.rel.new hn' hob (x := .cells (renA β cs) e (0, 0)) (cap := 0) lies_cells
  have hag : ∀ i, domB H' i = true → upd1 β c.n (w.heap.size, 0) i = β i := fun i hi => upd1_ne (fun e => by rw [e, hn'] at hi; cases hi)
  have := hR.put (v := .slice (some ⟨c.n, 0, none⟩) len len) hag (fun i hi => by rw [hd, domB_hput, hi, Bool.or_true]) (hRs.congr (fun _ _ => rfl) hl) o.dst (by simp [wfV, hd, domB_hput])
  have e5 : ren (upd1 β c.n (w.heap.size, 0)) (.slice (some ⟨c.n, 0, none⟩) len len) = .slice (some ⟨w.heap.size, 0, none⟩) len len := by simp only [ren, renP, upd1_self, capR_ne hlc, shf_zero, Nat.add_zero]
  rw [e5] at this
  exact hK rfl _ _ _ hag this
  case FR =>
    intro k hk
    unfold domB at hk
    simp only [look] at hk
    split at hk
    · rename_i e; rw [← e]; exact .inr hn
    · cases hk

theorem wfL_sub {p : Nat → Bool} {l l' : List Value} (h : wfL p l = true) (hs : ∀ x ∈ l', x ∈ l) : wfL p l' = true := by
  rw [wfL_all] at h ⊢
  exact fun v hv => h v (hs v hv)
theorem news_sub {l : List Value} {a b : Nat} : ∀ x ∈ (l.drop a).take b, x ∈ l := fun x hx => List.mem_of_mem_drop (List.mem_of_mem_take hx)
theorem renA_list (β : Num) (l : List Value) : renA β l.toArray = (renL β l).toArray := rfl
theorem news_at {A : Nat → Prop} {w0 : World} {β : Num} {H : Hp} {w : World} (h : Rel A w0 β H w) {b ox k : Nat} {c : Array Value} {T : TypeId} {fr : Nat × Nat} (hb : look H b = some (.cells c T fr)) :
    ∀ j v, (renL β ((c.toList.drop ox).take k))[j]? = some v → w.cell? ((⟨(β b).1, ox + shf (β b), none⟩ : Addr).add j) = some v := by
  intro j v hv
  rw [renL_map, List.getElem?_map, Option.map_eq_some_iff] at hv
  obtain ⟨u, hu, rfl⟩ := hv
  rw [Addr.add_lit, Nat.add_right_comm]
  refine (cells_at h hb (ox + j)).1 u ?_
  rw [List.getElem?_take] at hu
  split at hu
  · rw [List.getElem?_drop, Array.getElem?_toList] at hu
    exact hu
  · cases hu

theorem app_does {H : Hp} {t : List Value} {c c' : Ctl} {m : Mic} {Hr : Hp} {cl : Call} (ho : o.op = .call cl) (hall : o.op.operands.toList.all opdOK = true) (h : vapp P H t cl c = some (m, Hr, c')) :
    c'.obl = c.obl ∧ Sub Hr H ∧ (∀ k, domB m.set k = true → domB Hr k = true ∨ domB H k = false) ∧ (Wants ops o t → MicDoes P ops o t Hr m) := by
  have hnd : ∀ c, o.op ≠ .defer c := fun c e => by rw [ho] at e; cases e
  unfold vapp at h
  split at h
  case h_2 => cases h
  rename_i s x ty ty'
  have hos : ∀ y, y = s ∨ y = x → y ∈ o.op.operands := fun y hy => by
    rw [ho]
    rcases hy with rfl | rfl <;> simp [Op.operands, Call.operands]
  split at h
  case h_2 => cases h
  rename_i e hu
  split at h
  case h_2 => cases h
  rename_i ie hie
  split at h
  case h_2 => cases h
  rename_i z hz
  split at h
  case h_2 => cases h
  rename_i bx ox mm cx hx
  split at h
  case h_2 => cases h
  rename_i c2 Tx frx hbx
  split at h
  case isFalse => cases h
  rename_i hc
  obtain ⟨rfl, hm0, hfit2, h1, hzs, hsz, hn⟩ := hc
  have hlen : (((c2.toList.drop ox).take (mm * ie.size))).length = mm * ie.size := by
    rw [List.length_take, List.length_drop, Array.length_toList]
    omega
  have h1' : ∀ (β : Num), ∀ u ∈ renL β ((c2.toList.drop ox).take (mm * ie.size)), u.oneCell' = true := fun β u hu => by
    rw [renL_map] at hu
    obtain ⟨v, hv, rfl⟩ := List.mem_map.1 hu
    rw [ren_oneCell]
    exact List.all_eq_true.1 h1 v hv
  have hlen' : ∀ (β : Num), (renL β ((c2.toList.drop ox).take (mm * ie.size))).length = mm * ie.size := fun β => by rw [renL_map, List.length_map, hlen]
  have exec : ∀ (ρ : Operand → Value) (vs vx : Value) (r : Value) (w w' : World), ρ s = vs → ρ x = vx → (Builtin.append_ #[ty, ty] o.type #[vs, vx]).run P w = .ok r w' → (execOp ρ o).run P w = .ok (.value r) w' := fun ρ vs vx r w w' e1 e2 hr => by
    obtain ⟨dst, op, type, pos, after, guard⟩ := o
    simp only at ho hr
    subst ho
    simp only [execOp, resolve, invoke, builtin, Sem.run_bind, Sem.run_pure, Result.andThen_ok, List.map_toArray, List.map_cons, List.map_nil, e1, e2, hr]
  split at h
  · -- nothing yet
    rename_i hsv
    split at h
    case isFalse => cases h
    rename_i hc
    obtain ⟨hml, hmb⟩ := hc
    simp only [Option.some.injEq, Prod.mk.injEq] at h
    obtain ⟨rfl, rfl, rfl⟩ := h
    have hsub : Sub [(bx, Obj.cells c2 Tx frx)] H := fun i ob hi => by
      simp only [look] at hi
      split at hi
      · rename_i e; simp only [Option.some.injEq] at hi; rw [← e, ← hi]; exact hbx
      · cases hi
    refine ⟨rfl, hsub, ?FR, ?_⟩
    rotate_left
    intro hwant ro n Q K A w0 β D t' H' a w i hi hR ht hs hf hv hdr hK hP
    refine wpOp_want hi (hwant a t' β hR.tm ht) ?_
    have hbx' : look H' bx = some (.cells c2 Tx frx) := hs _ _ (by simp [look])
    have es : a.eval s = .slice none 0 0 := by rw [hR.eval (operand_dec hall (hos s (.inl rfl))), vev_same ht (hos s (.inl rfl)), hsv]; rfl
    have ex : a.eval x = .slice (some ⟨(β bx).1, ox + shf (β bx), none⟩) mm (capR (β bx) cx) := by rw [hR.eval (operand_dec hall (hos x (.inr rfl))), vev_same ht (hos x (.inr rfl)), hx]; rfl
    have hr := run_append_nil (P := P) (w := w) ty o.type e ie z hu hie hz ⟨(β bx).1, ox + shf (β bx), none⟩ mm (capR (β bx) cx) (renL β ((c2.toList.drop ox).take (mm * ie.size))) (hlen' β) (news_at hR.rel hbx') hm0 (by simp only [maxLen] at hml; omega) (by omega)
    rw [Oper.semAt_eq _ _ _ hnd, exec a.eval _ _ _ w _ es ex hr]
    have hn' : domB H' c.n = false := by
      rcases hf c.n (by simp [domB, look]) with h1 | h1
      · have h3 : c.n = bx := by
          unfold domB at h1
          simp only [look] at h1
          split at h1
          · rename_i e; exact e.symm
          · cases h1
        rw [h3, domB_of hbx] at hn
        cases hn
      · exact h1
    have hwc2 := hR.rel.wf bx _ hbx'
    simp only [wfO, Bool.and_eq_true] at hwc2
    have hob : wfO (domB H') (.cells ((c2.toList.drop ox).take (mm * ie.size)).toArray e (1, ie.size)) = true := by
      simp only [wfO, Bool.and_eq_true]
      refine ⟨?_, by simp⟩
      have := hwc2.1
      rw [wfA_list] at this
      exact wfL_sub this news_sub
    have hge := grownCap_ge w mm 0 e
    have hcm := grownCap_le_maxLen w mm 0 e hml
    have hl := look_merge1 c.n (.cells ((c2.toList.drop ox).take (mm * ie.size)).toArray e (1, ie.size)) H'
    have hd : ∀ i, domB (merge [(c.n, .cells ((c2.toList.drop ox).take (mm * ie.size)).toArray e (1, ie.size))] H') i = domB (hput H' c.n (.cells ((c2.toList.drop ox).take (mm * ie.size)).toArray e (1, ie.size))) i := fun i => by unfold domB; rw [hl]
    have hRs := hR.rel.drew.new hn' hob (x := .cells ((renL β ((c2.toList.drop ox).take (mm * ie.size))).toArray ++ Builtin.zeroCells z.cells (grownCap w mm 0 e - mm)) e) (cap := grownCap w mm 0 e) ⟨fun h => (by cases h), fun _ => ⟨_, rfl, hcm, by
      simp only [Array.size_append, List.size_toArray, size_zeroCells, hzs, hlen' β, ← Nat.add_mul]
      congr 1
      omega, by
      simp only [renA_list, Array.size_append, List.size_toArray]
      omega, by
      simp only [renA_list, Array.toList_append, List.size_toArray]
      exact List.take_left⟩, fun _ h => absurd rfl h⟩
    have hag : ∀ i, domB H' i = true → upd1 β c.n (w.drew.heap.size, grownCap w mm 0 e) i = β i := fun i hi => upd1_ne (fun e => by rw [e, hn'] at hi; cases hi)
    have := hR.put (v := .slice (some ⟨c.n, 0, none⟩) mm capU) hag (fun i hi => by rw [hd, domB_hput, hi, Bool.or_true]) (hRs.congr (fun _ _ => rfl) hl) o.dst (by simp [wfV, hd, domB_hput])
    have e5 : ren (upd1 β c.n (w.drew.heap.size, grownCap w mm 0 e)) (.slice (some ⟨c.n, 0, none⟩) mm capU) = .slice (some ⟨w.heap.size, 0, none⟩) mm (grownCap w mm 0 e) := by simp only [ren, renP, upd1_self, capR, if_true, shf0 (x := (w.drew.heap.size, grownCap w mm 0 e)) (le_capU hcm)]; rfl
    rw [e5] at this
    exact hK rfl _ _ _ hag this
    case FR =>
      intro k hk
      unfold domB at hk
      simp only [look] at hk
      split at hk
      · rename_i e; rw [← e]; exact .inr hn
      · cases hk
  · rename_i b n cu hsv
    split at h
    case h_2 => cases h
    rename_i c1 T zz hb
    split at h
    case isFalse => cases h
    rename_i hc
    obtain ⟨rfl, rfl, rfl, hc1, hml, hmb⟩ := hc
    simp only [Option.some.injEq, Prod.mk.injEq] at h
    obtain ⟨rfl, rfl, rfl⟩ := h
    generalize hN : (c2.toList.drop ox).take (mm * ie.size) = news at *
    have hsub : Sub [(bx, Obj.cells c2 Tx frx), (b, Obj.cells c1 T (1, ie.size))] H := fun i ob hi => by
      simp only [look] at hi
      split at hi
      · rename_i e; simp only [Option.some.injEq] at hi; rw [← e, ← hi]; exact hbx
      · split at hi
        · rename_i e; simp only [Option.some.injEq] at hi; rw [← e, ← hi]; exact hb
        · cases hi
    have hbn : b ≠ c.n := fun e => by rw [e] at hb; rw [domB_of hb] at hn; cases hn
    refine ⟨rfl, hsub, ?FR, ?_⟩
    rotate_left
    intro hwant ro nn Q K A w0 β D t' H' a w i hi hR ht hs hf hv hdr hK hP
    refine wpOp_want hi (hwant a t' β hR.tm ht) ?_
    have hbx' : look H' bx = some (.cells c2 Tx frx) := hs _ _ (by simp [look])
    have hb' : look H' b = some (.cells c1 T (1, ie.size)) := by
      refine hs _ _ ?_
      simp only [look]
      split
      · rename_i e
        rw [e, hb] at hbx
        rw [← hbx]
      · simp
    have hsb : shf (β b) = 0 := ((cells_at hR.rel hb' 0).2 rfl).1
    have es : a.eval s = .slice (some ⟨(β b).1, 0, none⟩) n (β b).2 := by rw [hR.eval (operand_dec hall (hos s (.inl rfl))), vev_same ht (hos s (.inl rfl)), hsv]; simp [ren, renP, capR, hsb]
    have ex : a.eval x = .slice (some ⟨(β bx).1, ox + shf (β bx), none⟩) mm (capR (β bx) cx) := by rw [hR.eval (operand_dec hall (hos x (.inr rfl))), vev_same ht (hos x (.inr rfl)), hx]; rfl
    have hnews : ∀ j v, (renL β news)[j]? = some v → w.cell? ((⟨(β bx).1, ox + shf (β bx), none⟩ : Addr).add j) = some v := by rw [← hN]; exact news_at hR.rel hbx'
    have holds : ∀ j v, (renL β c1.toList)[j]? = some v → w.cell? ((⟨(β b).1, 0, none⟩ : Addr).add j) = some v := fun j v hv => by
      rw [renL_map, List.getElem?_map, Option.map_eq_some_iff] at hv
      obtain ⟨u, hu, rfl⟩ := hv
      rw [Addr.add_lit, Nat.zero_add]
      rw [Array.getElem?_toList] at hu
      have := (cells_at hR.rel hb' j).1 u hu
      rw [hsb, Nat.add_zero] at this
      exact this
    have hlo : (renL β c1.toList).length = n * ie.size := by rw [renL_map, List.length_map, Array.length_toList, hc1]
    obtain ⟨cur, hcur, hcap, hcs, hcc, htake⟩ := (hR.rel.lies b _ hb').2.1 rfl
    simp only at hcs
    have hc1' : (renA β c1).size = n * ie.size := by rw [renA_map, Array.size_map, hc1]
    rw [hc1'] at hcc htake
    have hn' : domB H' c.n = false := by
      rcases hf c.n (by simp [domB, look]) with h1 | h1
      · have h3 : c.n = bx ∨ c.n = b := by
          by_cases e1 : bx = c.n
          · exact .inl e1.symm
          · by_cases e2 : b = c.n
            · exact .inr e2.symm
            · simp [domB, look, e1, e2] at h1
        rcases h3 with h3 | h3
        · rw [h3, domB_of hbx] at hn
          cases hn
        · exact absurd h3.symm hbn
      · exact h1
    have hwc2 := hR.rel.wf bx _ hbx'
    have hwc1 := hR.rel.wf b _ hb'
    simp only [wfO, Bool.and_eq_true] at hwc2 hwc1
    have hob : wfO (domB H') (.cells (c1.toList ++ news).toArray T (1, ie.size)) = true := by
      simp only [wfO, Bool.and_eq_true]
      refine ⟨?_, by simp⟩
      have e2 := hwc2.1
      have e1 := hwc1.1
      rw [wfA_list] at e1 e2
      show wfL _ (c1.toList ++ news) = true
      rw [wfL_all] at e1 e2 ⊢
      intro v hv
      rcases List.mem_append.1 hv with hv | hv
      · exact e1 v hv
      · rw [← hN] at hv; exact e2 v (news_sub v hv)
    have hren : renA β (c1.toList ++ news).toArray = (renL β c1.toList ++ renL β news).toArray := by rw [renA_list, renL_map, renL_map, renL_map, List.map_append]
    have hlook : ∀ i, look (merge [(c.n, .cells (c1.toList ++ news).toArray T (1, ie.size)), (b, deadO)] H') i = look (hput (hput H' b deadO) c.n (.cells (c1.toList ++ news).toArray T (1, ie.size))) i := fun i => by
      rw [look_merge, look_hput, look_hput]
      simp only [look]
      by_cases e1 : c.n = i
      · subst e1; simp
      · by_cases e2 : b = i
        · subst e2; rw [if_neg e1, if_pos rfl, if_neg hbn]; simp
        · rw [if_neg e1, if_neg e2, if_neg (fun e => e1 e.symm), if_neg (fun e => e2 e.symm)]
    have hd : ∀ i, domB (merge [(c.n, .cells (c1.toList ++ news).toArray T (1, ie.size)), (b, deadO)] H') i = domB (hput (hput H' b deadO) c.n (.cells (c1.toList ++ news).toArray T (1, ie.size))) i := fun i => by unfold domB; rw [hlook]
    have hd1 : ∀ i, domB H' i = true → domB (merge [(c.n, .cells (c1.toList ++ news).toArray T (1, ie.size)), (b, deadO)] H') i = true := fun i hi => by rw [hd, domB_hput, domB_hput, hi]; simp
    have hbl : liveB H' b = true := liveB_of hb' rfl
    have hle : (renL β news).length = mm * ie.size := hlen' β
    by_cases hroom : n + mm ≤ (β b).2
    · have hfit : n * ie.size + (renL β news).length ≤ cur.size := by rw [hle, hcs, ← Nat.add_mul]; exact Nat.mul_le_mul_right _ hroom
      have hr := run_append_room (P := P) w ty o.type T ie hu hie (β b).1 n (β b).2 cur hcur ⟨(β bx).1, ox + shf (β bx), none⟩ mm (capR (β bx) cx) (renL β news) hle hnews (h1' β) hroom hfit
      rw [Oper.semAt_eq _ _ _ hnd, exec a.eval _ _ _ w _ es ex hr]
      have hRs := hR.rel.move (w' := w.setRow (β b).1 (cur.toList.take (n * ie.size) ++ renL β news ++ cur.toList.drop (n * ie.size + (renL β news).length)).toArray) hbl (winB_of hb' rfl) hn' rfl hob (by
        refine ⟨fun h => (by cases h), fun _ => ⟨_, setRow_heap w (β b).1 cur _ T _ hcur, hcap, ?_, ?_, ?_⟩, fun _ h => absurd rfl h⟩
        · simp only [List.size_toArray, List.length_append, List.length_take, List.length_drop, Array.length_toList]
          omega
        · rw [hren]
          simp only [List.size_toArray, List.length_append, List.length_take, List.length_drop, Array.length_toList, hlo]
          omega
        · rw [hren]
          simp only [List.size_toArray]
          rw [htake, show (renA β c1).toList = renL β c1.toList from by rw [renA_map, renL_map, Array.toList_map]]
          exact List.take_left) rfl rfl rfl (by simp) (fun k _ hk => setRow_other w (β b).1 k _ hk)
      have hag : ∀ i, domB H' i = true → upd1 β c.n (β b) i = β i := fun i hi => upd1_ne (fun e => by rw [e, hn'] at hi; cases hi)
      have := hR.put (v := .slice (some ⟨c.n, 0, none⟩) (n + mm) capU) hag hd1 (hRs.congr (fun _ _ => rfl) hlook) o.dst (by simp [wfV, hd, domB_hput])
      have e5 : ren (upd1 β c.n (β b)) (.slice (some ⟨c.n, 0, none⟩) (n + mm) capU) = .slice (some ⟨(β b).1, 0, none⟩) (n + mm) (β b).2 := by simp only [ren, renP, upd1_self, capR, if_true, hsb]
      rw [e5] at this
      exact hK rfl _ _ _ hag this
    · have hr := run_append_grow (P := P) (w := w) ty o.type T ie z hu hie hz ⟨(β b).1, 0, none⟩ n (β b).2 (renL β c1.toList) hlo holds ⟨(β bx).1, ox + shf (β bx), none⟩ mm (capR (β bx) cx) (renL β news) hle hnews (by omega) (by simp only [maxLen] at hml; omega) (growslice_fits (by omega) hmb)
      rw [Oper.semAt_eq _ _ _ hnd, exec a.eval _ _ _ w _ es ex hr]
      have hge := grownCap_ge w (n + mm) (β b).2 T
      have hcm := grownCap_le_maxLen w (n + mm) (β b).2 T hml
      have hnk : domB (hput H' b deadO) c.n = false := by rw [domB_hput, hn', decide_eq_false (fun e => hbn e.symm)]; rfl
      have hobk : wfO (domB (hput H' b deadO)) (.cells (c1.toList ++ news).toArray T (1, ie.size)) = true := wfO_mono (fun j hj => by rw [domB_hput, hj, Bool.or_true]) hob
      have hRs := (hR.rel.kill (domB_of hb')).drew.new hnk hobk (x := .cells ((renL β c1.toList).toArray ++ (renL β news).toArray ++ Builtin.zeroCells z.cells (grownCap w (n + mm) (β b).2 T - (n + mm))) T) (cap := grownCap w (n + mm) (β b).2 T) ⟨fun h => (by cases h), fun _ => ⟨_, rfl, hcm, by
        simp only [Array.size_append, List.size_toArray, size_zeroCells, hzs, hlo, hle, ← Nat.add_mul]
        congr 1
        omega, by
        rw [hren]
        simp only [Array.size_append, List.size_toArray, List.length_append]
        omega, by
        rw [hren]
        simp only [Array.toList_append, List.size_toArray]
        exact List.take_left⟩, fun _ h => absurd rfl h⟩
      have hag : ∀ i, domB H' i = true → upd1 β c.n (w.drew.heap.size, grownCap w (n + mm) (β b).2 T) i = β i := fun i hi => upd1_ne (fun e => by rw [e, hn'] at hi; cases hi)
      have := hR.put (v := .slice (some ⟨c.n, 0, none⟩) (n + mm) capU) hag hd1 (hRs.congr (fun _ _ => rfl) hlook) o.dst (by simp [wfV, hd, domB_hput])
      have e5 : ren (upd1 β c.n (w.drew.heap.size, grownCap w (n + mm) (β b).2 T)) (.slice (some ⟨c.n, 0, none⟩) (n + mm) capU) = .slice (some ⟨w.heap.size, 0, none⟩) (n + mm) (grownCap w (n + mm) (β b).2 T) := by simp only [ren, renP, upd1_self, capR, if_true, shf0 (x := (w.drew.heap.size, grownCap w (n + mm) (β b).2 T)) (le_capU hcm)]; rfl
      rw [e5] at this
      exact hK rfl _ _ _ hag this
    case FR =>
      intro k hk
      by_cases e1 : c.n = k
      · rw [← e1]; exact .inr hn
      · by_cases e2 : b = k
        · rw [← e2]
          left
          unfold domB
          simp only [look]
          split <;> simp
        · simp [domB, look, e1, e2] at hk
  · cases h
end

end Go.Proofs.YtcjjckokaiobcaaDoor

/- A walk by computation: blocks that are not looked into. -/
namespace Go.Proofs.YtcjjckokaiobcaaDoor
open Go Go.RowKit
set_option linter.unusedSimpArgs false
set_option linter.unusedVariables false
attribute [local irreducible] shf

theorem opq_at {A : Nat → Prop} {w0 : World} {β : Num} {H : Hp} {w : World} (h : Rel A w0 β H w) {b z T u2 : Nat} {u3 : Bool} {c : Array Value} (hb : look H b = some (.chan z c false T u2 u3)) :
    OpenAt (β b).2 z T c w.heap[(β b).1]? ∧ wfA noB c = true := ⟨(h.lies b _ hb).1 rfl, (h.lies b _ hb).2.2⟩
theorem bnd_all {u1 : Bool} {z off : Nat} {l : List Prop} (h : AllP (bnd u1 z off l)) : (u1 = true → z ≤ off) ∧ AllP l := by
  cases u1
  · exact ⟨fun h => (by cases h), h⟩
  · exact ⟨fun _ => h.1, h.2⟩
theorem chan_shf {A : Nat → Prop} {w0 : World} {β : Num} {H : Hp} {w : World} (h : Rel A w0 β H w) {b z T u2 : Nat} {u1 u3 : Bool} {c : Array Value} (hb : look H b = some (.chan z c u1 T u2 u3)) : shf (β b) = 0 := by
  cases u1 with
  | false =>
    obtain ⟨cur, _, h2, _⟩ := (h.lies b _ hb).1 rfl
    exact shf0 (le_capU h2)
  | true => exact shf0 ((h.lies b _ hb).2.1 rfl).1
/-- A cell that is told, of a block that is ours or of a window. -/
theorem lk_cell {A : Nat → Prop} {w0 : World} {β : Num} {H : Hp} {w : World} (h : Rel A w0 β H w) {b z T u2 : Nat} {u1 u3 : Bool} {c : Array Value} (hb : look H b = some (.chan z c u1 T u2 u3)) (i : Nat) (hz : u1 = true → z ≤ i) (v : Value) (hv : c[i]? = some v) : w.cell? ⟨(β b).1, i, none⟩ = some v := by
  cases u1 with
  | false =>
    obtain ⟨cur, hl, h2, h3, h4, h5⟩ := (h.lies b _ hb).1 rfl
    simp only [World.cell?, hl, Option.isSome_none, Bool.false_eq_true, if_false]
    have hlt := (Array.getElem?_eq_some_iff.1 hv).1
    have e : c[i]? = cur[i]? := by
      rw [← Array.getElem?_toList, ← h5, List.getElem?_take_of_lt hlt, Array.getElem?_toList]
    rw [← e, hv]
  | true =>
    obtain ⟨_, cur, T', fr, hl, h2⟩ := (h.lies b _ hb).2.1 rfl
    simp only [World.cell?, hl, Option.isSome_none, Bool.false_eq_true, if_false]
    exact h2 i v (hz rfl) hv
theorem opq_cell {A : Nat → Prop} {w0 : World} {β : Num} {H : Hp} {w : World} (h : Rel A w0 β H w) {b z T u2 : Nat} {u3 : Bool} {c : Array Value} (hb : look H b = some (.chan z c false T u2 u3)) (i : Nat) :
    (∀ v, c[i]? = some v → w.cell? ⟨(β b).1, i, none⟩ = some v) ∧ w.frozen? ⟨(β b).1, i, none⟩ = false := by
  obtain ⟨⟨cur, hl, h2, h3, h4, h5⟩, _⟩ := opq_at h hb
  simp only [World.cell?, World.frozen?, hl, Option.isSome_none, Bool.false_eq_true, if_false]
  refine ⟨fun v hv => ?_, by simp⟩
  have hlt := (Array.getElem?_eq_some_iff.1 hv).1
  have e : c[i]? = cur[i]? := by
    rw [← Array.getElem?_toList, ← h5, List.getElem?_take_of_lt hlt, Array.getElem?_toList]
  rw [← e, hv]
theorem Rel.opsto {A : Nat → Prop} {w0 : World} {β : Num} {H : Hp} {w : World} (h : Rel A w0 β H w) {b z T u2 : Nat} {u3 : Bool} {c : Array Value} (hb : look H b = some (.chan z c false T u2 u3)) (o : Nat) {vs : List Value} (hle : o + vs.length ≤ c.size) (hv : wfL noB vs = true) :
    Rel A w0 β (hput H b (.chan z (setC c o vs) false T u2 u3)) (w.setCells (β b).1 o vs) := by
  have hbl : liveB H b = true := liveB_of hb rfl
  obtain ⟨⟨cur, g1, g2, g3, g4, g5⟩, g6⟩ := opq_at h hb
  have hdom : ∀ i, domB (hput H b (.chan z (setC c o vs) false T u2 u3)) i = domB H i := fun i => by
    rw [domB_hput]
    by_cases hi : i = b
    · subst hi; rw [domB_of hb, Bool.or_true]
    · rw [decide_eq_false hi, Bool.false_or]
  have hlv : ∀ i, liveB (hput H b (.chan z (setC c o vs) false T u2 u3)) i = liveB H i := fun i => by
    rw [liveB_hput]
    by_cases hi : i = b
    · subst hi; rw [if_pos rfl, hbl]; rfl
    · rw [if_neg hi]
  have hwv : ∀ i, winB (hput H b (.chan z (setC c o vs) false T u2 u3)) i = winB H i := fun i => by
    rw [winB_hput]
    by_cases hi : i = b
    · subst hi; rw [if_pos rfl, winB_of hb rfl]; rfl
    · rw [if_neg hi]
  refine ⟨fun i x hx => ?_, fun i j hi hj hwi e => ?_, fun i hi => ?_, fun i hi => ?_, fun i x hx => ?_, ?_⟩
  · rw [look_hput] at hx
    by_cases hi : i = b
    · subst hi
      rw [if_pos rfl] at hx
      simp only [Option.some.injEq] at hx
      subst hx
      refine ⟨fun _ => ⟨setC cur o vs, heap_setCells _ vs o w _ _ _ g1, g2, by rw [setC_size]; exact g3, by rw [setC_size, setC_size]; exact g4, ?_⟩, fun h => (by cases h), setC_wf _ _ _ _ hv g6⟩
      rw [setC_size]
      exact setC_take _ _ _ _ hle g4 g5
    · rw [if_neg hi] at hx
      by_cases hl : isLive x = true
      · rw [heap_setCells_ne _ _ (fun e => hi (h.inj' (liveB_of hx hl) hbl (winB_of hb rfl) e))]
        exact h.lies i x hx
      · cases x with
        | coro p => exact trivial
        | _ => exact absurd rfl hl
  · rw [hlv] at hi hj
    rw [hwv] at hwi
    exact h.inj i j hi hj hwi e
  · rw [hlv] at hi
    exact h.own i hi
  · rw [hlv] at hi
    rw [hwv]; exact h.win i hi
  · refine wfO_mono (p := domB H) (fun j hj => by rw [hdom]; exact hj) ?_
    rw [look_hput] at hx
    by_cases hi : i = b
    · rw [if_pos hi] at hx
      simp only [Option.some.injEq] at hx
      subst hx
      rfl
    · rw [if_neg hi] at hx
      exact h.wf i x hx
  · have hk := below_setCells 0 (β b).1 (Nat.zero_le _) vs o w
    refine ⟨hk.os.trans h.kp.os, hk.tape.trans h.kp.tape, hk.output.trans h.kp.output, Nat.le_trans h.kp.size hk.size, fun k hk2 hA => ?_, h.kp.gl⟩
    rw [heap_setCells_ne _ _ (fun e => ?_)]
    · exact h.kp.block k hk2 hA
    · exact h.not_hit hbl (winB_of hb rfl) (e ▸ hk2) (e ▸ hA)
/-- Cells that are told are as well not looked into. -/
theorem Rel.opaq {A : Nat → Prop} {w0 : World} {β : Num} {H : Hp} {w : World} (h : Rel A w0 β H w) {b z : Nat} {c : Array Value} {T : TypeId} (hb : look H b = some (.cells c T (1, z))) (hc : wfA noB c = true) : Rel A w0 β (hput H b (opq z c T)) w := by
  have hbl : liveB H b = true := liveB_of hb rfl
  have hl := (h.lies b _ hb).2.1 rfl
  rw [renA_plain β hc] at hl
  have hdom : ∀ i, domB (hput H b (opq z c T)) i = domB H i := fun i => by
    rw [domB_hput]
    by_cases hi : i = b
    · subst hi; rw [domB_of hb, Bool.or_true]
    · rw [decide_eq_false hi, Bool.false_or]
  have hlv : ∀ i, liveB (hput H b (opq z c T)) i = liveB H i := fun i => by
    rw [liveB_hput]
    by_cases hi : i = b
    · subst hi; rw [if_pos rfl, hbl]; rfl
    · rw [if_neg hi]
  have hwv : ∀ i, winB (hput H b (opq z c T)) i = winB H i := fun i => by
    rw [winB_hput]
    by_cases hi : i = b
    · subst hi; rw [if_pos rfl, winB_of hb rfl]; rfl
    · rw [if_neg hi]
  refine ⟨fun i x hx => ?_, fun i j hi hj hwi e => ?_, fun i hi => ?_, fun i hi => ?_, fun i x hx => ?_, h.kp⟩
  · rw [look_hput] at hx
    by_cases hi : i = b
    · subst hi
      rw [if_pos rfl] at hx
      simp only [Option.some.injEq] at hx
      subst hx
      exact ⟨fun _ => hl, fun h => (by cases h), hc⟩
    · rw [if_neg hi] at hx
      exact h.lies i x hx
  · rw [hlv] at hi hj
    rw [hwv] at hwi
    exact h.inj i j hi hj hwi e
  · rw [hlv] at hi
    exact h.own i hi
  · rw [hlv] at hi
    rw [hwv]; exact h.win i hi
  · refine wfO_mono (p := domB H) (fun j hj => by rw [hdom]; exact hj) ?_
    rw [look_hput] at hx
    by_cases hi : i = b
    · rw [if_pos hi] at hx
      simp only [Option.some.injEq] at hx
      subst hx
      rfl
    · rw [if_neg hi] at hx
      exact h.wf i x hx

theorem renA_plain_l (β : Num) {l : List Value} (h : wfL noB l = true) : renL β l = l := by
  have := renA_plain β (v := l.toArray) (by rw [wfA_list]; exact h)
  rw [renA_list] at this
  have h2 := congrArg Array.toList this
  simpa using h2
section
variable {P : Program} {ops : Array Oper} {o : Oper}

/-- An operation that yields a plain value, or one with blocks that are there, and changes nothing. -/
theorem quiet_does {t : List Value} {Hr : Hp} {v : Value} (hnd : ∀ c, o.op ≠ .defer c) (hwant : Wants ops o t)
    (run : ∀ {A : Nat → Prop} {w0 : World} {β : Num} {D : List VDef} {t' : List Value} {H' : Hp} {a : Act} {w : World}, RelA A w0 β D t' H' a w → (∀ x ∈ o.looksAt ops, t'[x]? = t[x]?) → Sub Hr H' → (execOp a.eval o).run P w = .ok (.value (ren β v)) w) :
    MicDoes P ops o t Hr { val := v, set := [] } := by
  intro ro n Q K A w0 β D t' H' a w i hi hR ht hs hf hv hdr hK hP
  refine wpOp_want hi (hwant a t' β hR.tm ht) ?_
  rw [Oper.semAt_eq _ _ _ hnd, run hR ht hs]
  have hl := merge_nil H'
  have hd : ∀ i, domB (merge [] H') i = domB H' i := fun i => by unfold domB; rw [hl]
  exact hK rfl β _ w (fun _ _ => rfl) (hR.put (fun _ _ => rfl) (fun i hi => by rw [hd]; exact hi) (hR.rel.congr (fun _ _ => rfl) hl) o.dst hv)

theorem sub_one {H : Hp} {b : Nat} {ob : Obj} (hb : look H b = some ob) : Sub [(b, ob)] H := fun i x hi => by
  simp only [look] at hi
  split at hi
  · rename_i e; simp only [Option.some.injEq] at hi; rw [← e, ← hi]; exact hb
  · cases hi

theorem ask_does {H : Hp} {t : List Value} {c c' : Ctl} {m : Mic} {Hr : Hp} (hall : o.op.operands.toList.all opdOK = true) (h : vask P H t o c = some (m, Hr, c')) :
    (AllP c'.obl → AllP c.obl) ∧ Sub Hr H ∧ (∀ k, domB m.set k = true → domB Hr k = true ∨ domB H k = false) ∧ (AllP c'.obl → Wants ops o t → MicDoes P ops o t Hr m) := by
  unfold vask at h
  split at h
  · -- load
    rename_i ty x ho
    have hnd : ∀ c, o.op ≠ .defer c := fun c e => by rw [ho] at e; cases e
    have hox : x ∈ o.op.operands := by rw [ho]; simp [Op.operands]
    split at h
    case h_2 => cases h
    rename_i b off hx
    split at h
    case h_2 => cases h
    rename_i z cs u1 T u2 u3 hb
    split at h
    case h_2 => cases h
    rename_i vs rest hlds
    split at h
    case isFalse => cases h
    rename_i hvs
    split at h
    · rename_i hrow
      split at h
      case h_2 => cases h
      rename_i i hi
      split at h
      case isFalse => cases h
      rename_i hlen
      simp only [Option.some.injEq, Prod.mk.injEq] at h
      obtain ⟨rfl, rfl, rfl⟩ := h
      refine ⟨fun x => (bnd_all x.2).2, sub_one hb, fun k hk => (by cases hk), fun hobl hwant => ?_⟩
      have hcs : (cs.toList.drop off).take vs.length = vs := hobl.1
      have hbd := (bnd_all hobl.2).1
      refine quiet_does hnd hwant ?_
      intro A w0 β D t' H' a w hR ht hs
      have hb' := hs b (Obj.chan z cs u1 T u2 u3) (by simp [look])
      have ex : a.eval x = .pointer (some ⟨(β b).1, off, none⟩) := by rw [hR.eval (operand_dec hall hox), vev_same ht hox, hx]; simp [ren, renP, chan_shf hR.rel hb']
      unfold rowT at hrow
      cases hu : P.underlying ty with
      | none => rw [hu] at hrow; cases hrow
      | some d =>
        rw [hu] at hrow
        have hd : d.isRow = true := by cases d <;> simp_all [TypeDesc.isRow]
        have hrun := run_loadAt_mid (P := P) w (β b).1 off ty vs d (fun j v hv => by
          refine lk_cell hR.rel hb' (off + j) (fun e => Nat.le_trans (hbd e) (Nat.le_add_right _ _)) v ?_
          rw [← hcs, List.getElem?_take] at hv
          split at hv
          · rw [List.getElem?_drop, Array.getElem?_toList] at hv; exact hv
          · cases hv) hu hd (by rw [hi, hlen]; rfl)
        obtain ⟨dst, op, type, pos, after, guard⟩ := o
        simp only at ho
        subst ho
        simp only [execOp, ex, Sem.run_bind, hrun, Result.andThen_ok]
        rw [ren_plain β (show wfV noB (.agg vs.toArray) = true by simpa [wfV, wfA] using hvs)]
        rfl
    · rename_i hrow
      split at h
      case h_2 => cases h
      rename_i v
      simp only [Option.some.injEq, Prod.mk.injEq] at h
      obtain ⟨rfl, rfl, rfl⟩ := h
      refine ⟨fun x => (bnd_all x.2).2, sub_one hb, fun k hk => (by cases hk), fun hobl hwant => ?_⟩
      have hcs : cs[off]? = some v := hobl.1
      have hbd := (bnd_all hobl.2).1
      refine quiet_does hnd hwant ?_
      intro A w0 β D t' H' a w hR ht hs
      have hb' := hs b (Obj.chan z cs u1 T u2 u3) (by simp [look])
      have ex : a.eval x = .pointer (some ⟨(β b).1, off, none⟩) := by rw [hR.eval (operand_dec hall hox), vev_same ht hox, hx]; simp [ren, renP, chan_shf hR.rel hb']
      unfold rowT at hrow
      cases hu : P.underlying ty with
      | none => rw [hu] at hrow; cases hrow
      | some d =>
        rw [hu] at hrow
        have hcell := lk_cell hR.rel hb' off hbd v hcs
        have hagg : (isAgg ty).run P w = .ok false w := by
          unfold isAgg
          rw [Sem.run_bind, run_underlying hu w]
          cases d <;> simp_all
        have hvp : wfV noB v = true := by simpa [wfL] using hvs
        obtain ⟨dst, op, type, pos, after, guard⟩ := o
        simp only at ho
        subst ho
        simp [execOp, ex, Sem.run_bind, Instr.loadAt, Instr.sureAddr, loadVar, hagg, hcell, ren_plain β hvp]
    · cases h
  · -- store
    rename_i ty x y ho
    have hnd : ∀ c, o.op ≠ .defer c := fun c e => by rw [ho] at e; cases e
    have hox : x ∈ o.op.operands := by rw [ho]; simp [Op.operands]
    have hoy : y ∈ o.op.operands := by rw [ho]; simp [Op.operands]
    split at h
    case h_2 => cases h
    rename_i b off hx
    split at h
    case h_2 => cases h
    rename_i z cs u1 T u2 u3 hb
    split at h
    case h_2 => cases h
    rename_i i hi
    split at h
    case isFalse => cases h
    rename_i hc
    obtain ⟨rfl, hsz, h1, hvp⟩ := hc
    simp only [Option.some.injEq, Prod.mk.injEq] at h
    obtain ⟨rfl, rfl, rfl⟩ := h
    refine ⟨fun x => x.2, sub_one hb, ?FR, fun hobl hwant => ?_⟩
    case FR =>
      intro k hk
      unfold domB at hk
      simp only [look] at hk
      split at hk
      · rename_i e; rw [← e]; left; simp [domB, look]
      · cases hk
    have hle : off + (vev t y).cells.toList.length ≤ cs.size := by rw [Array.length_toList]; exact hobl.1
    intro ro n Q K A w0 β D t' H' a w j hj hR ht hs hf hv hdr hK hP
    refine wpOp_want hj (hwant a t' β hR.tm ht) ?_
    have hb' := hs b (Obj.chan z cs false T u2 u3) (by simp [look])
    have ex : a.eval x = .pointer (some ⟨(β b).1, off, none⟩) := by rw [hR.eval (operand_dec hall hox), vev_same ht hox, hx]; simp [ren, renP, chan_shf hR.rel hb']
    have ey : a.eval y = ren β (vev t y) := by rw [hR.eval (operand_dec hall hoy), vev_same ht hoy]
    have hcs : (ren β (vev t y)).cells = (vev t y).cells := by rw [ren_cells, renA_plain β (by rw [wfA_list]; exact hvp)]
    have hst := run_storeCells_cells (P := P) (β b).1 off (vev t y).cells.toList 0 w (fun j hj => by
        rw [Nat.add_zero, (opq_cell hR.rel hb' (off + j)).1 cs[off + j] (Array.getElem?_eq_getElem (by omega))]
        rfl) (fun j hj => (opq_cell hR.rel hb' _).2) (fun v hv => List.all_eq_true.1 h1 v hv)
    rw [Nat.add_zero] at hst
    have hrun : (execOp a.eval o).run P w = .ok .skip (w.setCells (β b).1 off (vev t y).cells.toList) := by
      obtain ⟨dst, op, type, pos, after, guard⟩ := o
      simp only at ho
      subst ho
      simp [execOp, ex, ey, Sem.run_bind, Instr.storeAt, Instr.sureAddr, storeVar, sizeOf, typeInfo, hi, hsz, hcs, hst]
    rw [Oper.semAt_eq _ _ _ hnd, hrun]
    have hl := look_merge1 b (.chan z (setC cs off (vev t y).cells.toList) false T u2 u3) H'
    have hd : ∀ i, domB (merge [(b, .chan z (setC cs off (vev t y).cells.toList) false T u2 u3)] H') i = domB (hput H' b (.chan z (setC cs off (vev t y).cells.toList) false T u2 u3)) i := fun i => by unfold domB; rw [hl]
    have hRs := hR.rel.opsto hb' off hle hvp
    exact hK rfl β _ _ (fun _ _ => rfl) (hR.put (fun _ _ => rfl) (fun i hi => by rw [hd, domB_hput, hi, Bool.or_true]) (hRs.congr (fun _ _ => rfl) hl) o.dst (v := undef) rfl)
  · -- index
    rename_i ty x ix ho
    have hnd : ∀ c, o.op ≠ .defer c := fun c e => by rw [ho] at e; cases e
    have hox : x ∈ o.op.operands := by rw [ho]; simp [Op.operands]
    have hoi : ix ∈ o.op.operands := by rw [ho]; simp [Op.operands]
    split at h
    case h_2 => cases h
    rename_i b off nn cp hx
    split at h
    case h_2 => cases h
    rename_i k i hi
    split at h
    case h_2 => cases h
    rename_i z cs u1 T u2 u3 hb
    split at h
    case h_2 => cases h
    rename_i e hu
    split at h
    case h_2 => cases h
    rename_i ti hti
    simp only [Option.some.injEq, Prod.mk.injEq] at h
    obtain ⟨rfl, rfl, rfl⟩ := h
    refine ⟨fun x => x.2, sub_one hb, fun k hk => (by cases hk), fun hobl hwant => ?_⟩
    have hin : 0 ≤ i ∧ i < (nn : Int) := hobl.1
    refine quiet_does hnd hwant ?_
    intro A w0 β D t' H' a w hR ht hs
    have hsb : shf (β b) = 0 := chan_shf hR.rel (hs b (Obj.chan z cs u1 T u2 u3) (by simp [look]))
    have ex : a.eval x = .slice (some ⟨(β b).1, off, none⟩) nn (capR (β b) cp) := by rw [hR.eval (operand_dec hall hox), vev_same ht hox, hx]; simp [ren, renP, hsb]
    have ei : a.eval ix = .int k i := by rw [hR.eval (operand_dec hall hoi), vev_same ht hoi, hi]; rfl
    obtain ⟨dst, op, type, pos, after, guard⟩ := o
    simp only at ho
    subst ho
    simp [execOp, ex, ei, Sem.run_bind, Instr.indexAt, run_underlying hu, asIntOf, hin, sizeOf, typeInfo, hti, Addr.add_lit, ren, renP, hsb]
  · -- a slice of a slice
    rename_i ty x lo ho
    have hnd : ∀ c, o.op ≠ .defer c := fun c e => by rw [ho] at e; cases e
    have hox : x ∈ o.op.operands := by rw [ho]; simp [Op.operands]
    have hol : lo ∈ o.op.operands := by rw [ho]; simp [Op.operands]
    split at h
    case h_2 => cases h
    rename_i b off nn cp hx
    split at h
    case h_2 => cases h
    rename_i k i hi
    split at h
    case h_2 => cases h
    rename_i z cs u1 T u2 u3 hb
    split at h
    case h_2 => cases h
    rename_i e hu
    split at h
    case h_2 => cases h
    rename_i ti hti
    simp only [Option.some.injEq, Prod.mk.injEq] at h
    obtain ⟨rfl, rfl, rfl⟩ := h
    refine ⟨fun x => x.2, sub_one hb, fun k hk => (by cases hk), fun hobl hwant => ?_⟩
    obtain ⟨hi0, hi1, hcp⟩ := hobl.1
    refine quiet_does hnd hwant ?_
    intro A w0 β D t' H' a w hR ht hs
    have hsb : shf (β b) = 0 := chan_shf hR.rel (hs b (Obj.chan z cs u1 T u2 u3) (by simp [look]))
    have cU : ∀ y, y ≤ cp → capR (β b) y = y := fun y hy => by
      unfold capR
      rw [if_neg]
      intro hh
      have : capU ≤ maxLen := by rw [← hh]; exact Nat.le_trans hy hcp
      exact absurd this (by decide)
    have ex : a.eval x = .slice (some ⟨(β b).1, off, none⟩) nn cp := by rw [hR.eval (operand_dec hall hox), vev_same ht hox, hx, ren, cU cp (Nat.le_refl _)]; simp [renP, hsb]
    have ei : a.eval lo = .int k i := by rw [hR.eval (operand_dec hall hol), vev_same ht hol, hi]; rfl
    have he : P.elem ty = e := by simp [Program.elem, hu]
    have hu' : P.underlying ty = some (.slice (P.elem ty)) := by rw [he]; exact hu
    obtain ⟨dst, op, type, pos, after, guard⟩ := o
    simp only at ho
    subst ho
    simp only [execOp, ex, ei, Option.map_some, Option.map_none, Sem.run_bind, run_sliceAt_slice w ty _ _ _ _ hu', run_slice_l w ty _ nn cp hu' k i hi0 hi1, he]
    simp only [sizeOf, typeInfo, hti, Sem.run_bind, Sem.run_pure, Result.andThen_ok, sliced, Option.map_some, Addr.add_lit, ren, renP, cU _ (Nat.sub_le _ _), hsb, Nat.add_zero]
    split <;> simp_all
  · -- division by what is not known
    rename_i op ty x y rty ho
    have hnd : ∀ c, o.op ≠ .defer c := fun c e => by rw [ho] at e; cases e
    have hox : x ∈ o.op.operands := by rw [ho]; simp [Op.operands]
    have hoy : y ∈ o.op.operands := by rw [ho]; simp [Op.operands]
    split at h
    case h_3 => cases h
    case h_2 =>
      -- what is left is foretold
      rename_i kr r rest hlds
      split at h
      case h_2 => cases h
      rename_i k i hx
      split at h
      case h_2 => cases h
      rename_i k' j hy
      split at h
      case isFalse => cases h
      rename_i hk
      obtain ⟨hk, hkr⟩ := hk
      subst hk
      split at h
      case h_2 => cases h
      simp only [Option.some.injEq, Prod.mk.injEq] at h
      obtain ⟨rfl, rfl, rfl⟩ := h
      refine ⟨fun x => x.2, fun i x hi => (by cases hi), fun k hk => (by cases hk), fun hobl hwant => ?_⟩
      obtain ⟨hj, hr⟩ := hobl.1
      refine quiet_does hnd hwant ?_
      intro A w0 β D t' H' a w hR ht hs
      have ex : a.eval x = .int k i := by rw [hR.eval (operand_dec hall hox), vev_same ht hox, hx]; rfl
      have ey : a.eval y = .int k j := by rw [hR.eval (operand_dec hall hoy), vev_same ht hoy, hy]; rfl
      obtain ⟨dst, op', type, pos, after, guard⟩ := o
      simp only at ho
      subst ho
      simp [execOp, ex, ey, Sem.run_bind, eqGuard, binOp, Op.intDiv, hj, hr, ren]
    rename_i rest hlds
    split at h
    case h_2 => cases h
    rename_i k i hx
    split at h
    case h_2 => cases h
    rename_i k' j hy
    split at h
    case isFalse => cases h
    rename_i hk
    subst hk
    split at h
    case h_3 => cases h
    all_goals
      simp only [Option.some.injEq, Prod.mk.injEq] at h
      obtain ⟨rfl, rfl, rfl⟩ := h
      refine ⟨fun x => x.2, fun i x hi => (by cases hi), fun k hk => (by cases hk), fun hobl hwant => ?_⟩
      have hj : j ≠ 0 := hobl.1
      refine quiet_does hnd hwant ?_
      intro A w0 β D t' H' a w hR ht hs
      have ex : a.eval x = .int k i := by rw [hR.eval (operand_dec hall hox), vev_same ht hox, hx]; rfl
      have ey : a.eval y = .int k j := by rw [hR.eval (operand_dec hall hoy), vev_same ht hoy, hy]; rfl
      obtain ⟨dst, op', type, pos, after, guard⟩ := o
      simp only at ho
      subst ho
      simp [execOp, ex, ey, Sem.run_bind, eqGuard, binOp, Op.intDiv, hj, ren]
  · -- a part of an array that is foretold
    rename_i ty x ix ho
    have hnd : ∀ c, o.op ≠ .defer c := fun c e => by rw [ho] at e; cases e
    have hox : x ∈ o.op.operands := by rw [ho]; simp [Op.operands]
    have hoy : ix ∈ o.op.operands := by rw [ho]; simp [Op.operands]
    split at h
    case h_2 => cases h
    rename_i v rest hlds
    split at h
    case isFalse => cases h
    rename_i hwf
    obtain ⟨wx, wi, wv⟩ := hwf
    simp only [Option.some.injEq, Prod.mk.injEq] at h
    obtain ⟨rfl, rfl, rfl⟩ := h
    refine ⟨fun x => x.2, fun i x hi => (by cases hi), fun k hk => (by cases hk), fun hobl hwant => ?_⟩
    have hc := hobl.1
    refine quiet_does hnd hwant ?_
    intro A w0 β D t' H' a w hR ht hs
    have ex : a.eval x = vev t x := by rw [hR.eval (operand_dec hall hox), vev_same ht hox, ren_plain β wx]
    have ey : a.eval ix = vev t ix := by rw [hR.eval (operand_dec hall hoy), vev_same ht hoy, ren_plain β wi]
    have hr := calm_run hc w
    obtain ⟨dst, op', type, pos, after, guard⟩ := o
    simp only at ho
    subst ho
    simp only [execOp, ex, ey, Sem.run_bind, hr, Result.andThen_ok, ren_plain β wv]
    rfl
  · cases h

theorem appq_does {H : Hp} {t : List Value} {c c' : Ctl} {m : Mic} {Hr : Hp} {cl : Call} (ho : o.op = .call cl) (hall : o.op.operands.toList.all opdOK = true) (h : vapq P H t cl c = some (m, Hr, c')) :
    (AllP c'.obl → AllP c.obl) ∧ Sub Hr H ∧ (∀ k, domB m.set k = true → domB Hr k = true ∨ domB H k = false) ∧ (AllP c'.obl → Wants ops o t → MicDoes P ops o t Hr m) := by
  have hnd : ∀ c, o.op ≠ .defer c := fun c e => by rw [ho] at e; cases e
  unfold vapq at h
  split at h
  case h_2 => cases h
  rename_i s x ty ty'
  have hos : ∀ y, y = s ∨ y = x → y ∈ o.op.operands := fun y hy => by
    rw [ho]
    rcases hy with rfl | rfl <;> simp [Op.operands, Call.operands]
  split at h
  case h_2 => cases h
  rename_i e hu
  split at h
  case h_2 => cases h
  rename_i ie hie
  split at h
  case h_2 => cases h
  rename_i z hz
  split at h
  case h_2 => cases h
  rename_i bx ox mm cx hx
  split at h
  case h_2 => cases h
  rename_i c2 Tx frx hbx
  split at h
  case isFalse => cases h
  rename_i hc
  obtain ⟨rfl, hm0, hfit2, h1, hzs, hsz, hn⟩ := hc
  have hlen : (((c2.toList.drop ox).take (mm * ie.size))).length = mm * ie.size := by
    rw [List.length_take, List.length_drop, Array.length_toList]
    omega
  have h1' : ∀ (β : Num), ∀ u ∈ renL β ((c2.toList.drop ox).take (mm * ie.size)), u.oneCell' = true := fun β u hu => by
    rw [renL_map] at hu
    obtain ⟨v, hv, rfl⟩ := List.mem_map.1 hu
    rw [ren_oneCell]
    exact List.all_eq_true.1 h1 v hv
  have hlen' : ∀ (β : Num), (renL β ((c2.toList.drop ox).take (mm * ie.size))).length = mm * ie.size := fun β => by rw [renL_map, List.length_map, hlen]
  have exec : ∀ (ρ : Operand → Value) (vs vx : Value) (r : Value) (w w' : World), ρ s = vs → ρ x = vx → (Builtin.append_ #[ty, ty] o.type #[vs, vx]).run P w = .ok r w' → (execOp ρ o).run P w = .ok (.value r) w' := fun ρ vs vx r w w' e1 e2 hr => by
    obtain ⟨dst, op, type, pos, after, guard⟩ := o
    simp only at ho hr
    subst ho
    simp only [execOp, resolve, invoke, builtin, Sem.run_bind, Sem.run_pure, Result.andThen_ok, List.map_toArray, List.map_cons, List.map_nil, e1, e2, hr]
  split at h
  case h_2 => cases h
  rename_i b n cu hsv
  split at h
  · -- not looked into
    rename_i zz c1 u1 T u2 u3 hb
    split at h
    case isFalse => cases h
    rename_i hc
    obtain ⟨rfl, rfl, rfl, rfl, hnp⟩ := hc
    simp only [Option.some.injEq, Prod.mk.injEq] at h
    obtain ⟨rfl, rfl, rfl⟩ := h
    generalize hN : (c2.toList.drop ox).take (mm * ie.size) = news at *
    have hsub : Sub [(bx, Obj.cells c2 Tx frx), (b, Obj.chan ie.size c1 false T u2 u3)] H := fun i ob hi => by
      simp only [look] at hi
      split at hi
      · rename_i e; simp only [Option.some.injEq] at hi; rw [← e, ← hi]; exact hbx
      · split at hi
        · rename_i e; simp only [Option.some.injEq] at hi; rw [← e, ← hi]; exact hb
        · cases hi
    have hbn : b ≠ c.n := fun e => by rw [e] at hb; rw [domB_of hb] at hn; cases hn
    refine ⟨fun x => x.2, hsub, ?FR, ?_⟩
    rotate_left
    intro hobl hwant ro nn Q K A w0 β D t' H' a w i hi hR ht hs hf hv hdr hK hP
    obtain ⟨hc1, hml, hmb⟩ := hobl.1
    have hpl : ∀ β : Num, renL β news = news := fun β => renA_plain_l β hnp
    refine wpOp_want hi (hwant a t' β hR.tm ht) ?_
    have hbx' : look H' bx = some (.cells c2 Tx frx) := hs _ _ (by simp [look])
    have hb' : look H' b = some (Obj.chan ie.size c1 false T u2 u3) := by
      refine hs _ _ ?_
      simp only [look]
      split
      · rename_i e
        rw [e, hb] at hbx
        rw [← hbx]
      · simp
    have hsb : shf (β b) = 0 := shf0 (le_capU (opq_at hR.rel hb').1.choose_spec.2.1)
    have es : a.eval s = .slice (some ⟨(β b).1, 0, none⟩) n (β b).2 := by rw [hR.eval (operand_dec hall (hos s (.inl rfl))), vev_same ht (hos s (.inl rfl)), hsv]; simp [ren, renP, capR, hsb]
    have ex : a.eval x = .slice (some ⟨(β bx).1, ox + shf (β bx), none⟩) mm (capR (β bx) cx) := by rw [hR.eval (operand_dec hall (hos x (.inr rfl))), vev_same ht (hos x (.inr rfl)), hx]; rfl
    have hnews : ∀ j v, (renL β news)[j]? = some v → w.cell? ((⟨(β bx).1, ox + shf (β bx), none⟩ : Addr).add j) = some v := by rw [← hN]; exact news_at hR.rel hbx'
    have holds : ∀ j v, (c1.toList)[j]? = some v → w.cell? ((⟨(β b).1, 0, none⟩ : Addr).add j) = some v := fun j v hv => by
      rw [Addr.add_lit, Nat.zero_add]
      rw [Array.getElem?_toList] at hv
      exact (opq_cell hR.rel hb' j).1 v hv
    have hlo : (c1.toList).length = n * ie.size := by rw [Array.length_toList, hc1]
    obtain ⟨⟨cur, hcur, hcap, hcs, hcc, htake⟩, hp1⟩ := opq_at hR.rel hb'
    rw [hc1] at hcc htake
    have hn' : domB H' c.n = false := by
      rcases hf c.n (by simp [domB, look]) with h1 | h1
      · have h3 : c.n = bx ∨ c.n = b := by
          by_cases e1 : bx = c.n
          · exact .inl e1.symm
          · by_cases e2 : b = c.n
            · exact .inr e2.symm
            · simp [domB, look, e1, e2] at h1
        rcases h3 with h3 | h3
        · rw [h3, domB_of hbx] at hn
          cases hn
        · exact absurd h3.symm hbn
      · exact h1
    have hob : wfO (domB H') (.chan ie.size (c1.toList ++ news).toArray false T u2 u3) = true := rfl
    have hp2 : wfA noB (c1.toList ++ news).toArray = true := by
      rw [wfA_list] at hp1 ⊢
      rw [wfL_all] at *
      intro v hv
      have hv : v ∈ c1.toList ++ news := hv
      rcases List.mem_append.1 hv with hv | hv
      · exact hp1 v hv
      · exact hnp v hv
    have hlook : ∀ i, look (merge [(c.n, .chan ie.size (c1.toList ++ news).toArray false T u2 u3), (b, deadO)] H') i = look (hput (hput H' b deadO) c.n (.chan ie.size (c1.toList ++ news).toArray false T u2 u3)) i := fun i => by
      rw [look_merge, look_hput, look_hput]
      simp only [look]
      by_cases e1 : c.n = i
      · subst e1; simp
      · by_cases e2 : b = i
        · subst e2; rw [if_neg e1, if_pos rfl, if_neg hbn]; simp
        · rw [if_neg e1, if_neg e2, if_neg (fun e => e1 e.symm), if_neg (fun e => e2 e.symm)]
    have hd : ∀ i, domB (merge [(c.n, .chan ie.size (c1.toList ++ news).toArray false T u2 u3), (b, deadO)] H') i = domB (hput (hput H' b deadO) c.n (.chan ie.size (c1.toList ++ news).toArray false T u2 u3)) i := fun i => by unfold domB; rw [hlook]
    have hd1 : ∀ i, domB H' i = true → domB (merge [(c.n, .chan ie.size (c1.toList ++ news).toArray false T u2 u3), (b, deadO)] H') i = true := fun i hi => by rw [hd, domB_hput, domB_hput, hi]; simp
    have hbl : liveB H' b = true := liveB_of hb' rfl
    have hle : (renL β news).length = mm * ie.size := hlen' β
    rw [hpl] at hle hnews
    have h1n : ∀ u ∈ news, u.oneCell' = true := fun u hu => by have := h1' β u; rw [hpl] at this; exact this hu
    by_cases hroom : n + mm ≤ (β b).2
    · have hfit : n * ie.size + news.length ≤ cur.size := by rw [hle, hcs, ← Nat.add_mul]; exact Nat.mul_le_mul_right _ hroom
      have hr := run_append_room (P := P) w ty o.type T ie hu hie (β b).1 n (β b).2 cur hcur ⟨(β bx).1, ox + shf (β bx), none⟩ mm (capR (β bx) cx) news hle hnews h1n hroom hfit
      rw [Oper.semAt_eq _ _ _ hnd, exec a.eval _ _ _ w _ es ex hr]
      have hRs := hR.rel.move (w' := w.setRow (β b).1 (cur.toList.take (n * ie.size) ++ news ++ cur.toList.drop (n * ie.size + news.length)).toArray) hbl (winB_of hb' rfl) hn' rfl hob (by
        refine ⟨fun _ => ⟨_, setRow_heap w (β b).1 cur _ T _ hcur, hcap, ?_, ?_, ?_⟩, fun h => (by cases h), hp2⟩
        · simp only [List.size_toArray, List.length_append, List.length_take, List.length_drop, Array.length_toList]
          omega
        · simp only [List.size_toArray, List.length_append, List.length_take, List.length_drop, Array.length_toList] at hlo ⊢
          omega
        · simp only [List.size_toArray]
          rw [htake]
          exact List.take_left) rfl rfl rfl (by simp) (fun k _ hk => setRow_other w (β b).1 k _ hk)
      have hag : ∀ i, domB H' i = true → upd1 β c.n (β b) i = β i := fun i hi => upd1_ne (fun e => by rw [e, hn'] at hi; cases hi)
      have := hR.put (v := .slice (some ⟨c.n, 0, none⟩) (n + mm) capU) hag hd1 (hRs.congr (fun _ _ => rfl) hlook) o.dst (by simp [wfV, hd, domB_hput])
      have e5 : ren (upd1 β c.n (β b)) (.slice (some ⟨c.n, 0, none⟩) (n + mm) capU) = .slice (some ⟨(β b).1, 0, none⟩) (n + mm) (β b).2 := by simp only [ren, renP, upd1_self, capR, if_true, hsb]
      rw [e5] at this
      exact hK rfl _ _ _ hag this
    · have hr := run_append_grow (P := P) (w := w) ty o.type T ie z hu hie hz ⟨(β b).1, 0, none⟩ n (β b).2 (c1.toList) hlo holds ⟨(β bx).1, ox + shf (β bx), none⟩ mm (capR (β bx) cx) (news) hle hnews (by omega) (by simp only [maxLen] at hml; omega) (growslice_fits (by omega) hmb)
      rw [Oper.semAt_eq _ _ _ hnd, exec a.eval _ _ _ w _ es ex hr]
      have hge := grownCap_ge w (n + mm) (β b).2 T
      have hcm := grownCap_le_maxLen w (n + mm) (β b).2 T hml
      have hnk : domB (hput H' b deadO) c.n = false := by rw [domB_hput, hn', decide_eq_false (fun e => hbn e.symm)]; rfl
      have hobk : wfO (domB (hput H' b deadO)) (.chan ie.size (c1.toList ++ news).toArray false T u2 u3) = true := wfO_mono (fun j hj => by rw [domB_hput, hj, Bool.or_true]) hob
      have hRs := (hR.rel.kill (domB_of hb')).drew.new hnk hobk (x := .cells ((c1.toList).toArray ++ (news).toArray ++ Builtin.zeroCells z.cells (grownCap w (n + mm) (β b).2 T - (n + mm))) T) (cap := grownCap w (n + mm) (β b).2 T) ⟨fun _ => ⟨_, rfl, hcm, by
        simp only [Array.size_append, List.size_toArray, size_zeroCells, hzs, hlo, hle, ← Nat.add_mul]
        congr 1
        omega, by
        simp only [Array.size_append, List.size_toArray, List.length_append]
        omega, by
        simp only [Array.toList_append, List.size_toArray]
        exact List.take_left⟩, fun h => (by cases h), hp2⟩
      have hag : ∀ i, domB H' i = true → upd1 β c.n (w.drew.heap.size, grownCap w (n + mm) (β b).2 T) i = β i := fun i hi => upd1_ne (fun e => by rw [e, hn'] at hi; cases hi)
      have := hR.put (v := .slice (some ⟨c.n, 0, none⟩) (n + mm) capU) hag hd1 (hRs.congr (fun _ _ => rfl) hlook) o.dst (by simp [wfV, hd, domB_hput])
      have e5 : ren (upd1 β c.n (w.drew.heap.size, grownCap w (n + mm) (β b).2 T)) (.slice (some ⟨c.n, 0, none⟩) (n + mm) capU) = .slice (some ⟨w.heap.size, 0, none⟩) (n + mm) (grownCap w (n + mm) (β b).2 T) := by simp only [ren, renP, upd1_self, capR, if_true, shf0 (x := (w.drew.heap.size, grownCap w (n + mm) (β b).2 T)) (le_capU hcm)]; rfl
      rw [e5] at this
      exact hK rfl _ _ _ hag this
    case FR =>
      intro k hk
      by_cases e1 : c.n = k
      · rw [← e1]; exact .inr hn
      · by_cases e2 : b = k
        · rw [← e2]
          left
          unfold domB
          simp only [look]
          split <;> simp
        · simp [domB, look, e1, e2] at hk
  · -- full
    rename_i c1 T hb
    split at h
    case isFalse => cases h
    rename_i hc
    obtain ⟨hcu, hc1, rfl, hml, hmb⟩ := hc
    have hcu : cu ≠ capU := fun e => by rw [e] at hcu; simp at hcu
    simp only [Option.some.injEq, Prod.mk.injEq] at h
    obtain ⟨rfl, rfl, rfl⟩ := h
    generalize hN : (c2.toList.drop ox).take (mm * ie.size) = news at *
    have hsub : Sub [(bx, Obj.cells c2 Tx frx), (b, Obj.cells c1 T (0, 0))] H := fun i ob hi => by
      simp only [look] at hi
      split at hi
      · rename_i e; simp only [Option.some.injEq] at hi; rw [← e, ← hi]; exact hbx
      · split at hi
        · rename_i e; simp only [Option.some.injEq] at hi; rw [← e, ← hi]; exact hb
        · cases hi
    have hbn : b ≠ c.n := fun e => by rw [e] at hb; rw [domB_of hb] at hn; cases hn
    refine ⟨id, hsub, ?FR, ?_⟩
    rotate_left
    intro _ hwant ro nn Q K A w0 β D t' H' a w i hi hR ht hs hf hv hdr hK hP
    refine wpOp_want hi (hwant a t' β hR.tm ht) ?_
    have hbx' : look H' bx = some (.cells c2 Tx frx) := hs _ _ (by simp [look])
    have hb' : look H' b = some (.cells c1 T (0, 0)) := by
      refine hs _ _ ?_
      simp only [look]
      split
      · rename_i e
        rw [e, hb] at hbx
        rw [← hbx]
      · simp
    have hsb : shf (β b) = 0 := ((cells_at hR.rel hb' 0).2 rfl).1
    have es : a.eval s = .slice (some ⟨(β b).1, 0, none⟩) cu cu := by rw [hR.eval (operand_dec hall (hos s (.inl rfl))), vev_same ht (hos s (.inl rfl)), hsv]; simp [ren, renP, capR_ne hcu, hsb]
    have ex : a.eval x = .slice (some ⟨(β bx).1, ox + shf (β bx), none⟩) mm (capR (β bx) cx) := by rw [hR.eval (operand_dec hall (hos x (.inr rfl))), vev_same ht (hos x (.inr rfl)), hx]; rfl
    have hnews : ∀ j v, (renL β news)[j]? = some v → w.cell? ((⟨(β bx).1, ox + shf (β bx), none⟩ : Addr).add j) = some v := by rw [← hN]; exact news_at hR.rel hbx'
    have holds : ∀ j v, (renL β c1.toList)[j]? = some v → w.cell? ((⟨(β b).1, 0, none⟩ : Addr).add j) = some v := fun j v hv => by
      rw [renL_map, List.getElem?_map, Option.map_eq_some_iff] at hv
      obtain ⟨u, hu, rfl⟩ := hv
      rw [Addr.add_lit, Nat.zero_add]
      rw [Array.getElem?_toList] at hu
      have := (cells_at hR.rel hb' j).1 u hu
      rw [hsb, Nat.add_zero] at this
      exact this
    have hlo : (renL β c1.toList).length = cu * ie.size := by rw [renL_map, List.length_map, Array.length_toList, hc1]
    have hn' : domB H' c.n = false := by
      rcases hf c.n (by simp [domB, look]) with h1 | h1
      · have h3 : c.n = bx ∨ c.n = b := by
          by_cases e1 : bx = c.n
          · exact .inl e1.symm
          · by_cases e2 : b = c.n
            · exact .inr e2.symm
            · simp [domB, look, e1, e2] at h1
        rcases h3 with h3 | h3
        · rw [h3, domB_of hbx] at hn
          cases hn
        · exact absurd h3.symm hbn
      · exact h1
    have hwc2 := hR.rel.wf bx _ hbx'
    have hwc1 := hR.rel.wf b _ hb'
    simp only [wfO, Bool.and_eq_true] at hwc2 hwc1
    have hob : wfO (domB H') (.cells (c1.toList ++ news).toArray e (1, ie.size)) = true := by
      simp only [wfO, Bool.and_eq_true]
      refine ⟨?_, by simp⟩
      have e2 := hwc2.1
      have e1 := hwc1.1
      rw [wfA_list] at e1 e2
      show wfL _ (c1.toList ++ news) = true
      rw [wfL_all] at *
      intro v hv
      rcases List.mem_append.1 hv with hv | hv
      · exact e1 v hv
      · rw [← hN] at hv; exact e2 v (news_sub v hv)
    have hren : renA β (c1.toList ++ news).toArray = (renL β c1.toList ++ renL β news).toArray := by rw [renA_list, renL_map, renL_map, renL_map, List.map_append]
    have hle : (renL β news).length = mm * ie.size := hlen' β
    have hl := look_merge1 c.n (.cells (c1.toList ++ news).toArray e (1, ie.size)) H'
    have hd : ∀ i, domB (merge [(c.n, .cells (c1.toList ++ news).toArray e (1, ie.size))] H') i = domB (hput H' c.n (.cells (c1.toList ++ news).toArray e (1, ie.size))) i := fun i => by unfold domB; rw [hl]
    have hr := run_append_grow (P := P) (w := w) ty o.type e ie z hu hie hz ⟨(β b).1, 0, none⟩ cu cu (renL β c1.toList) hlo holds ⟨(β bx).1, ox + shf (β bx), none⟩ mm (capR (β bx) cx) (renL β news) hle hnews (by omega) (by simp only [maxLen] at hml; omega) (growslice_fits (by omega) hmb)
    rw [Oper.semAt_eq _ _ _ hnd, exec a.eval _ _ _ w _ es ex hr]
    have hge := grownCap_ge w (cu + mm) cu e
    have hcm := grownCap_le_maxLen w (cu + mm) cu e hml
    have hRs := hR.rel.drew.new hn' hob (x := .cells ((renL β c1.toList).toArray ++ (renL β news).toArray ++ Builtin.zeroCells z.cells (grownCap w (cu + mm) cu e - (cu + mm))) e) (cap := grownCap w (cu + mm) cu e) ⟨fun h => (by cases h), fun _ => ⟨_, rfl, hcm, by
        simp only [Array.size_append, List.size_toArray, size_zeroCells, hzs, hlo, hle, ← Nat.add_mul]
        congr 1
        omega, by
        rw [hren]
        simp only [Array.size_append, List.size_toArray, List.length_append]
        omega, by
        rw [hren]
        simp only [Array.toList_append, List.size_toArray]
        exact List.take_left⟩, fun _ h => absurd rfl h⟩
    have hag : ∀ i, domB H' i = true → upd1 β c.n (w.drew.heap.size, grownCap w (cu + mm) cu e) i = β i := fun i hi => upd1_ne (fun e => by rw [e, hn'] at hi; cases hi)
    have := hR.put (v := .slice (some ⟨c.n, 0, none⟩) (cu + mm) capU) hag (fun i hi => by rw [hd, domB_hput, hi, Bool.or_true]) (hRs.congr (fun _ _ => rfl) hl) o.dst (by simp [wfV, hd, domB_hput])
    have e5 : ren (upd1 β c.n (w.drew.heap.size, grownCap w (cu + mm) cu e)) (.slice (some ⟨c.n, 0, none⟩) (cu + mm) capU) = .slice (some ⟨w.heap.size, 0, none⟩) (cu + mm) (grownCap w (cu + mm) cu e) := by simp only [ren, renP, upd1_self, capR, if_true, shf0 (x := (w.drew.heap.size, grownCap w (cu + mm) cu e)) (le_capU hcm)]; rfl
    rw [e5] at this
    exact hK rfl _ _ _ hag this
    case FR =>
      intro k hk
      unfold domB at hk
      simp only [look] at hk
      split at hk
      · rename_i e; rw [← e]; exact .inr hn
      · cases hk
  · cases h
end

end Go.Proofs.YtcjjckokaiobcaaDoor

/- A walk by computation: slices of windows, slices that are made, what is appended where there is room or out of a window. -/
namespace Go.Proofs.YtcjjckokaiobcaaDoor
open Go Go.RowKit
set_option linter.unusedSimpArgs false
set_option linter.unusedVariables false
attribute [local irreducible] shf

/-- A block that is written anew under its number. -/
theorem Rel.rew {A : Nat → Prop} {w0 : World} {β : Num} {H : Hp} {w w' : World} (h : Rel A w0 β H w) {b : Nat} (hb : liveB H b = true) (hwb : winB H b = false) {o : Obj} (hno : winO o = false) (ho : wfO (domB H) o = true)
    (hx : LiesO β (β b).2 o w'.heap[(β b).1]?) (hos : w'.os = w.os) (htp : w'.tape = w.tape) (hout : w'.output = w.output) (hsz : w.heap.size ≤ w'.heap.size) (hk : ∀ k, k < w.heap.size → k ≠ (β b).1 → w'.heap[k]? = w.heap[k]?) :
    Rel A w0 β (hput H b o) w' := by
  have hdom : ∀ i, domB (hput H b o) i = domB H i := fun i => by
    rw [domB_hput]
    by_cases hi : i = b
    · subst hi; rw [liveB_dom hb, Bool.or_true]
    · rw [decide_eq_false hi, Bool.false_or]
  have hlv : ∀ i, liveB (hput H b o) i = true → liveB H i = true := fun i hi => by
    rw [liveB_hput] at hi
    by_cases e : i = b
    · rw [e]; exact hb
    · rw [if_neg e] at hi; exact hi
  refine ⟨fun i y hy => ?_, fun i j hi hj hw e => h.inj i j (hlv i hi) (hlv j hj) (by rw [winB_hput] at hw; split at hw; (· rename_i e2; rw [e2]; exact hwb); exact hw) e, fun i hi => h.own i (hlv i hi), fun i hi => ?_, fun i y hy => ?_, ?_⟩
  · rw [look_hput] at hy
    by_cases hi : i = b
    · subst hi
      rw [if_pos rfl] at hy
      simp only [Option.some.injEq] at hy
      subst hy
      exact hx
    · rw [if_neg hi] at hy
      by_cases hl : isLive y = true
      · rw [hk _ (h.lt (liveB_of hy hl)) (fun e => hi (h.inj' (liveB_of hy hl) hb hwb e))]
        exact h.lies i y hy
      · cases y with
        | coro p => exact trivial
        | _ => exact absurd rfl hl
  · rw [winB_hput]
    by_cases hib : i = b
    · rw [if_pos hib, hno, ← hwb, hib]; exact h.win b hb
    · rw [if_neg hib]; exact h.win i (hlv i hi)
  · refine wfO_mono (p := domB H) (fun j hj => by rw [hdom]; exact hj) ?_
    rw [look_hput] at hy
    by_cases hi : i = b
    · rw [if_pos hi] at hy
      simp only [Option.some.injEq] at hy
      subst hy
      exact ho
    · rw [if_neg hi] at hy
      exact h.wf i y hy
  · refine ⟨hos.trans h.kp.os, htp.trans h.kp.tape, hout.trans h.kp.output, Nat.le_trans h.kp.size hsz, fun k hk2 hA => ?_, h.kp.gl⟩
    rw [hk k (Nat.lt_of_lt_of_le hk2 h.kp.size) (fun e => ?_)]
    · exact h.kp.block k hk2 hA
    · exact h.not_hit hb hwb (e ▸ hk2) (e ▸ hA)
theorem sub_two {H : Hp} {b b' : Nat} {ob ob' : Obj} (hb : look H b = some ob) (hb' : look H b' = some ob') : Sub [(b, ob), (b', ob')] H := fun i x hi => by
  simp only [look] at hi
  split at hi
  · rename_i e; simp only [Option.some.injEq] at hi; rw [← e, ← hi]; exact hb
  · split at hi
    · rename_i e; simp only [Option.some.injEq] at hi; rw [← e, ← hi]; exact hb'
    · cases hi
/-- What lies under a number of the two. -/
theorem look_two {H H' : Hp} {b b' : Nat} {ob ob' : Obj} (hb : look H b = some ob) (hb' : look H b' = some ob') (hs : Sub [(b, ob), (b', ob')] H') : look H' b = some ob ∧ look H' b' = some ob' := by
  refine ⟨hs _ _ (by simp [look]), hs _ _ ?_⟩
  simp only [look]
  split
  · rename_i e
    rw [e, hb'] at hb
    rw [← hb]
  · simp

theorem cut_addr {B off d l n size cp : Nat} {m : Option Nat} (h : n ≤ cp) :
    (if m.getD cp = l then some (⟨B, off + d, none⟩ : Addr) else (some (⟨B, off + d, none⟩ : Addr)).map (·.add (l * size))) = some ⟨B, cutOff off l n size cp m + d, none⟩ := by
  have ea : ((⟨B, off + d, none⟩ : Addr).add (l * size)) = ⟨B, off + l * size + d, none⟩ := by
    rw [Addr.add_lit]
    congr 1
    omega
  simp only [Option.map_some, ea]
  unfold cutOff
  cases m with
  | some m =>
    simp only [Option.getD_some]
    split <;> rfl
  | none =>
    simp only [Option.getD_none]
    by_cases h0 : l = 0
    · subst h0
      simp
    · rw [if_neg h0]
      by_cases h1 : l < n
      · rw [if_neg (by omega), if_pos h1]
      · rw [if_neg h1]
        split <;> rfl

theorem fill_ren (β : Num) (place : Nat → Option (Nat × Nat)) : ∀ (l : List (Nat × Value)) (cells r : Array Value), Instr.fill place cells l = some r → Instr.fill place (renA β cells) (l.map fun p => (p.1, ren β p.2)) = some (renA β r)
  | [], cells, r, h => by
    simp only [Instr.fill, Option.some.injEq] at h
    subst h
    rfl
  | (i, v) :: l, cells, r, h => by
    simp only [Instr.fill] at h
    simp only [List.map_cons, Instr.fill]
    cases hp : place i with
    | none => rw [hp] at h; cases h
    | some q =>
      obtain ⟨off, size⟩ := q
      rw [hp] at h
      simp only at h ⊢
      have hs : (ren β v).cells.size = v.cells.size := by rw [ren_cells, renA_map, Array.size_map]
      have hs2 : (renA β cells).size = cells.size := by rw [renA_map, Array.size_map]
      have e : ∀ (u cs : Array Value), u.zipIdx.foldl (fun cs (x : Value × Nat) => cs.setIfInBounds (off + x.2) x.1) cs = setC cs off u.toList := fun u cs => by
        rw [← Array.foldl_toList, Array.toList_zipIdx]
        exact foldl_setC off u.toList 0 cs
      rw [hs, hs2]
      split at h
      · cases h
      · rename_i hc
        rw [if_neg hc]
        have h2 := fill_ren β place l _ r h
        rw [← h2]
        congr 1
        rw [e, e, setC_ren, ren_cells]
        congr 1
        rw [renL_map, renA_map]
        simp
theorem built_ren (β : Num) {P : Program} {t : TypeId} {l : List (Nat × Value)} {cs : Array Value} {z : Value} (h : P.built t l = some cs) (hz : (P.info? t).bind (·.zero) = some z) (hp : wfA noB z.cells = true) : P.built t (l.map fun p => (p.1, ren β p.2)) = some (renA β cs) := by
  unfold Program.built at h ⊢
  cases hi : P.info? t with
  | none => rw [hi] at h; cases h
  | some it =>
    rw [hi] at h hz
    simp only [Option.bind_some] at hz
    cases hu : P.underlying t with
    | none => rw [hu] at h; cases h
    | some d =>
      rw [hu] at h
      cases d with
      | array n e =>
        simp only [hz] at h ⊢
        cases he : P.info? e with
        | none => rw [he] at h; cases h
        | some ie =>
          rw [he] at h
          have := fill_ren β _ _ _ _ h
          rw [renA_plain β hp] at this
          exact this
      | struct fields =>
        simp only [hz] at h ⊢
        cases hm : fields.toList.mapM (fun f => (P.info? f.type).map fun i => (f.offset, i.size)) with
        | none => rw [hm] at h; cases h
        | some places =>
          rw [hm] at h
          have := fill_ren β _ _ _ _ h
          rw [renA_plain β hp] at this
          exact this
      | _ => cases h
section
variable {P : Program} {ops : Array Oper} {o : Oper}

theorem natO_eval {A : Nat → Prop} {w0 : World} {β : Num} {D : List VDef} {t t' : List Value} {H' : Hp} {a : Act} {w : World} (hR : RelA A w0 β D t' H' a w) (ht : ∀ x ∈ o.looksAt ops, t'[x]? = t[x]?) (hall : o.op.operands.toList.all opdOK = true) {y : Option Operand} (hy : ∀ z, y = some z → z ∈ o.op.operands) {l : Option Nat} (h : natO t y = some l) :
    ∃ k, y.map a.eval = l.map fun (i : Nat) => Value.int k (i : Int) := by
  cases y with
  | none =>
    simp only [natO, Option.some.injEq] at h
    subst h
    exact ⟨.i64, rfl⟩
  | some z =>
    simp only [natO] at h
    split at h
    · rename_i k i hz
      simp only [Option.some.injEq] at h
      subst h
      refine ⟨k, ?_⟩
      rw [Option.map_some, hR.eval (operand_dec hall (hy z rfl)), vev_same ht (hy z rfl), hz]
      rfl
    · cases h

theorem more_does {H : Hp} {t : List Value} {c c' : Ctl} {m : Mic} {Hr : Hp} (hall : o.op.operands.toList.all opdOK = true) (h : vmore P H t o c = some (m, Hr, c')) :
    (AllP c'.obl → AllP c.obl) ∧ Sub Hr H ∧ (∀ k, domB m.set k = true → domB Hr k = true ∨ domB H k = false) ∧ (AllP c'.obl → Wants ops o t → MicDoes P ops o t Hr m) := by
  unfold vmore at h
  split at h
  · -- a slice of a window
    rename_i ty x lo hi mx ho
    have hnd : ∀ c, o.op ≠ .defer c := fun c e => by rw [ho] at e; cases e
    have hox : x ∈ o.op.operands := by rw [ho]; simp [Op.operands]
    split at h
    case h_2 => cases h
    rename_i b off nn cp hx
    split at h
    case h_2 => cases h
    rename_i cs T fr hb
    split at h
    case h_2 => cases h
    rename_i e hu
    split at h
    case h_2 => cases h
    rename_i ti hti
    split at h
    case h_2 => cases h
    rename_i l hh mm hl hhi hm
    split at h
    case isFalse => cases h
    rename_i hc
    obtain ⟨hwin, hok⟩ := hc
    simp only [Option.some.injEq, Prod.mk.injEq] at h
    obtain ⟨rfl, rfl, rfl⟩ := h
    refine ⟨fun x => x.2, sub_one hb, fun k hk => (by cases hk), fun hobl hwant => ?_⟩
    obtain ⟨hncp, hcp⟩ := hobl.1
    refine quiet_does hnd hwant ?_
    intro A w0 β D t' H' a w hR ht hs
    have cU : ∀ y, y ≤ cp → capR (β b) y = y := fun y hy => by
      unfold capR
      rw [if_neg]
      intro hh
      have : capU ≤ maxLen := by rw [← hh]; exact Nat.le_trans hy hcp
      exact absurd this (by decide)
    have ex : a.eval x = .slice (some ⟨(β b).1, off + shf (β b), none⟩) nn cp := by rw [hR.eval (operand_dec hall hox), vev_same ht hox, hx, ren, cU cp (Nat.le_refl _)]; rfl
    obtain ⟨k1, e1⟩ := natO_eval hR ht hall (y := lo) (fun z hz => by rw [ho, hz]; simp [Op.operands]) hl
    obtain ⟨k2, e2⟩ := natO_eval hR ht hall (y := hi) (fun z hz => by rw [ho, hz]; simp [Op.operands]) hhi
    obtain ⟨k3, e3⟩ := natO_eval hR ht hall (y := mx) (fun z hz => by rw [ho, hz]; simp [Op.operands]) hm
    have he : P.elem ty = e := by simp [Program.elem, hu]
    have hu' : P.underlying ty = some (.slice (P.elem ty)) := by rw [he]; exact hu
    have hsz : (sizeOf (P.elem ty)).run P w = .ok ti.size w := by
      rw [he]
      simp only [sizeOf, typeInfo, Sem.run_bind]
      simp [hti]
    have hv : sliced (some ⟨(β b).1, off + shf (β b), none⟩) (l.getD 0) (hh.getD nn) (mm.getD cp) ti.size = ren β (.slice (some ⟨b, cutOff off (l.getD 0) nn ti.size cp mm, none⟩) (hh.getD nn - l.getD 0) (mm.getD cp - l.getD 0)) := by
      unfold sliced
      rw [cut_addr hncp]
      simp only [ren, renP]
      rw [cU]
      cases mm with
      | none => exact Nat.sub_le _ _
      | some m2 =>
        simp only [cutOK, Bool.and_eq_true, Nat.ble_eq] at hok
        simp only [Option.getD_some]
        omega
    obtain ⟨dst, op, type, pos, after, guard⟩ := o
    simp only at ho
    subst ho
    simp only [execOp, ex, e1, e2, e3, Sem.run_bind, run_sliceAt_slice w ty _ _ _ _ hu']
    rw [← hv]
    simp only [cutOK, Bool.and_eq_true, Nat.ble_eq] at hok
    cases l with
    | none =>
      cases hh with
      | none =>
        cases mm with
        | none => simp only [Option.map_none, run_slice_all w ty _ nn cp hu', hsz, Result.andThen_ok, Option.getD_none]; rfl
        | some m2 => simp at hok
      | some h2 =>
        cases mm with
        | none =>
          simp only [Option.getD_none, Option.getD_some, Option.isSome_some, Bool.and_eq_true, Nat.ble_eq, true_and] at hok
          simp only [Option.map_none, Option.map_some, run_slice_h w ty _ nn cp hu' k2 (h2 : Int) (Int.natCast_nonneg _) (by omega), hsz, Result.andThen_ok, Option.getD_none, Option.getD_some, Int.toNat_natCast]; rfl
        | some m2 =>
          simp only [Option.getD_none, Option.getD_some, Option.isSome_some, Bool.and_eq_true, Nat.ble_eq, true_and] at hok
          simp only [Option.map_none, Option.map_some, run_slice_hm w ty _ nn cp hu' k2 k3 (h2 : Int) (m2 : Int) (Int.natCast_nonneg _) (by omega) (by omega), hsz, Result.andThen_ok, Option.getD_none, Option.getD_some, Int.toNat_natCast]; rfl
    | some l2 =>
      cases hh with
      | none =>
        cases mm with
        | none =>
          simp only [Option.getD_none, Option.getD_some, Option.isSome_some, Bool.and_eq_true, Nat.ble_eq, true_and] at hok
          simp only [Option.map_none, Option.map_some, run_slice_l w ty _ nn cp hu' k1 (l2 : Int) (Int.natCast_nonneg _) (by omega), hsz, Result.andThen_ok, Option.getD_none, Option.getD_some, Int.toNat_natCast]; rfl
        | some m2 => simp at hok
      | some h2 =>
        cases mm with
        | none =>
          simp only [Option.getD_none, Option.getD_some, Option.isSome_some, Bool.and_eq_true, Nat.ble_eq, true_and] at hok
          simp only [Option.map_none, Option.map_some, run_slice_lh w ty _ nn cp hu' k1 k2 (l2 : Int) (h2 : Int) (Int.natCast_nonneg _) (by omega) (by omega), hsz, Result.andThen_ok, Option.getD_none, Option.getD_some, Int.toNat_natCast]; rfl
        | some m2 =>
          simp only [Option.getD_none, Option.getD_some, Option.isSome_some, Bool.and_eq_true, Nat.ble_eq, true_and] at hok
          simp only [Option.map_none, Option.map_some, run_slice_lhm w ty _ nn cp hu' k1 k2 k3 (l2 : Int) (h2 : Int) (m2 : Int) (Int.natCast_nonneg _) (by omega) (by omega) (by omega), hsz, Result.andThen_ok, Option.getD_none, Option.getD_some, Int.toNat_natCast]; rfl
  · -- what is built
    rename_i ty parts ho
    have hnd : ∀ c, o.op ≠ .defer c := fun c e => by rw [ho] at e; cases e
    split at h
    case h_2 => cases h
    rename_i cs z hcs hz
    split at h
    case isFalse => cases h
    rename_i hp
    simp only [Option.some.injEq, Prod.mk.injEq] at h
    obtain ⟨rfl, rfl, rfl⟩ := h
    refine ⟨id, fun _ _ h => (by cases h), fun k hk => (by cases hk), fun _ hwant => ?_⟩
    refine quiet_does hnd hwant ?_
    intro A w0 β D t' H' a w hR ht hs
    have e1 := built_ren β hcs hz hp
    rw [List.map_map] at e1
    have hops : ∀ p ∈ parts.toList, opdOK p.2 = true ∧ p.2 ∈ o.op.operands := fun p hp => by
      have hm : p.2 ∈ o.op.operands := by
        rw [ho]
        simp only [Op.operands, List.mem_toArray, List.mem_map]
        exact ⟨p, hp, rfl⟩
      exact ⟨operand_dec hall hm, hm⟩
    have e3 : (parts.map fun (p : Nat × Operand) => (p.1, a.eval p.2)).toList = parts.toList.map ((fun p => (p.1, ren β p.2)) ∘ fun p => (p.1, vev t p.2)) := by
      rw [Array.toList_map]
      refine List.map_congr_left (fun p hp => ?_)
      simp only [Function.comp]
      rw [hR.eval (hops p hp).1, vev_same ht (hops p hp).2]
    rw [← e3] at e1
    have hr := run_build (P := P) w ty _ _ e1
    obtain ⟨dst, op, type, pos, after, guard⟩ := o
    simp only at ho
    subst ho
    simp only [execOp, Sem.run_bind, hr, Result.andThen_ok]
    rfl
  · -- a slice that is made
    rename_i ty l cc ho
    have hnd : ∀ c, o.op ≠ .defer c := fun c e => by rw [ho] at e; cases e
    have hol : l ∈ o.op.operands := by rw [ho]; simp [Op.operands]
    have hoc : cc ∈ o.op.operands := by rw [ho]; simp [Op.operands]
    split at h
    case h_2 => cases h
    rename_i kl n kc k hl hk
    split at h
    case h_2 => cases h
    rename_i e hu
    split at h
    case h_2 => cases h
    rename_i ie hie
    split at h
    case h_2 => cases h
    rename_i z hz
    split at h
    case isFalse => cases h
    rename_i hc
    obtain ⟨hnk, hkm, hby, hzp, hn, hcap⟩ := hc
    have hkc : k ≠ capU := fun e => by rw [e] at hcap; simp at hcap
    simp only [Option.some.injEq, Prod.mk.injEq] at h
    obtain ⟨rfl, rfl, rfl⟩ := h
    refine ⟨id, fun _ _ h => (by cases h), ?FR, ?_⟩
    rotate_left
    intro _ hwant ro nn Q K A w0 β D t' H' a w i hi hR ht hs hf hv hdr hK hP
    refine wpOp_want hi (hwant a t' β hR.tm ht) ?_
    have el : a.eval l = .int kl (n : Int) := by rw [hR.eval (operand_dec hall hol), vev_same ht hol, hl]; rfl
    have ec : a.eval cc = .int kc (k : Int) := by rw [hR.eval (operand_dec hall hoc), vev_same ht hoc, hk]; rfl
    have hr := run_make (P := P) w ty e ie z hu hie hz kl kc (n : Int) (k : Int) (by omega) (by omega) (by rw [← Int.natCast_mul]; omega) (by simp only [maxLen] at hkm; omega)
    simp only [Int.toNat_natCast] at hr
    have hrun : (execOp a.eval o).run P w = .ok (.value (.slice (some ⟨w.heap.size, 0, none⟩) n k)) (w.alloc (.cells (renA β (zrow (k * ie.size) z.cells)) e (0, 0))) := by
      rw [renA_plain β hzp, zrow_is]
      obtain ⟨dst, op, type, pos, after, guard⟩ := o
      simp only at ho
      subst ho
      simp only [execOp, Sem.run_bind, el, ec, hr, Result.andThen_ok]
      rfl
    rw [Oper.semAt_eq _ _ _ hnd, hrun]
    have hn' : domB H' c.n = false := by
      rcases hf c.n (by simp [domB, look]) with h1 | h1
      · cases h1
      · exact h1
    have hob : wfO (domB H') (.cells (zrow (k * ie.size) z.cells) e (0, 0)) = true := by
      simp only [wfO, Bool.and_eq_true]
      exact ⟨wfA_mono (p := noB) (fun _ h => (by cases h)) _ hzp, by decide⟩
    have hl := look_merge1 c.n (.cells (zrow (k * ie.size) z.cells) e (0, 0)) H'
    have hd : ∀ i, domB (merge [(c.n, .cells (zrow (k * ie.size) z.cells) e (0, 0))] H') i = domB (hput H' c.n (.cells (zrow (k * ie.size) z.cells) e (0, 0))) i := fun i => by unfold domB; rw [hl]
    have hRs := hR.rel.new hn' hob (x := .cells (renA β (zrow (k * ie.size) z.cells)) e (0, 0)) (cap := 0) lies_cells
    have hag : ∀ i, domB H' i = true → upd1 β c.n (w.heap.size, 0) i = β i := fun i hi => upd1_ne (fun e => by rw [e, hn'] at hi; cases hi)
    have := hR.put (v := .slice (some ⟨c.n, 0, none⟩) n k) hag (fun i hi => by rw [hd, domB_hput, hi, Bool.or_true]) (hRs.congr (fun _ _ => rfl) hl) o.dst (by simp [wfV, hd, domB_hput])
    have e5 : ren (upd1 β c.n (w.heap.size, 0)) (.slice (some ⟨c.n, 0, none⟩) n k) = .slice (some ⟨w.heap.size, 0, none⟩) n k := by simp only [ren, renP, upd1_self, capR_ne hkc, shf_zero, Nat.add_zero]
    rw [e5] at this
    exact hK rfl _ _ _ hag this
    case FR =>
      intro k hk
      unfold domB at hk
      simp only [look] at hk
      split at hk
      · rename_i e; rw [← e]; exact .inr hn
      · cases hk
  · -- what is appended
    rename_i s x ty ty' ho
    have hnd : ∀ c, o.op ≠ .defer c := fun c e => by rw [ho] at e; cases e
    have hos : ∀ y, y = s ∨ y = x → y ∈ o.op.operands := fun y hy => by
      rw [ho]
      rcases hy with rfl | rfl <;> simp [Op.operands, Call.operands]
    have exec : ∀ (ρ : Operand → Value) (vs vx : Value) (r : Value) (w w' : World), ρ s = vs → ρ x = vx → (Builtin.append_ #[ty, ty'] o.type #[vs, vx]).run P w = .ok r w' → (execOp ρ o).run P w = .ok (.value r) w' := fun ρ vs vx r w w' e1 e2 hr => by
      obtain ⟨dst, op, type, pos, after, guard⟩ := o
      simp only at ho hr
      subst ho
      simp only [execOp, resolve, invoke, builtin, Sem.run_bind, Sem.run_pure, Result.andThen_ok, List.map_toArray, List.map_cons, List.map_nil, e1, e2, hr]
    split at h
    case h_2 => cases h
    rename_i e hu
    split at h
    case h_2 => cases h
    rename_i ie hie
    split at h
    case h_2 => cases h
    rename_i z hz
    split at h
    case h_2 => cases h
    rename_i bx ox mm cx hx
    split at h
    case h_3 => cases h
    · -- where there is room
      rename_i c2 Tx frx hbx
      split at h
      case h_2 => cases h
      rename_i b n cu hsv
      split at h
      case h_2 => cases h
      rename_i c1 T hb
      split at h
      case isFalse => cases h
      rename_i hc
      obtain ⟨_, rfl, rfl, hfit2, h1, hcu, hroom, hfit⟩ := hc
      have hcu : cu ≠ capU := fun e => by rw [e] at hcu; simp at hcu
      have hlen : (((c2.toList.drop ox).take (mm * ie.size))).length = mm * ie.size := by
        rw [List.length_take, List.length_drop, Array.length_toList]
        omega
      simp only [Option.some.injEq, Prod.mk.injEq] at h
      obtain ⟨rfl, rfl, rfl⟩ := h
      generalize hN : (c2.toList.drop ox).take (mm * ie.size) = news at *
      refine ⟨id, sub_two hbx hb, ?FR2, ?_⟩
      rotate_left
      intro _ hwant ro nn Q K A w0 β D t' H' a w i hi hR ht hs hf hv hdr hK hP
      refine wpOp_want hi (hwant a t' β hR.tm ht) ?_
      obtain ⟨hbx', hb'⟩ := look_two hbx hb hs
      have hsb : shf (β b) = 0 := ((cells_at hR.rel hb' 0).2 rfl).1
      have es : a.eval s = .slice (some ⟨(β b).1, 0, none⟩) n cu := by rw [hR.eval (operand_dec hall (hos s (.inl rfl))), vev_same ht (hos s (.inl rfl)), hsv]; simp [ren, renP, capR_ne hcu, hsb]
      have ex : a.eval x = .slice (some ⟨(β bx).1, ox + shf (β bx), none⟩) mm (capR (β bx) cx) := by rw [hR.eval (operand_dec hall (hos x (.inr rfl))), vev_same ht (hos x (.inr rfl)), hx]; rfl
      have hnews : ∀ j v, (renL β news)[j]? = some v → w.cell? ((⟨(β bx).1, ox + shf (β bx), none⟩ : Addr).add j) = some v := by rw [← hN]; exact news_at hR.rel hbx'
      have h1' : ∀ u ∈ renL β news, u.oneCell' = true := fun u hu => by
        rw [renL_map] at hu
        obtain ⟨v, hv, rfl⟩ := List.mem_map.1 hu
        rw [ren_oneCell]
        exact List.all_eq_true.1 h1 v hv
      have hle : (renL β news).length = mm * ie.size := by rw [renL_map, List.length_map, hlen]
      obtain ⟨hc0, hcur⟩ := (hR.rel.lies b _ hb').1 rfl
      have hsz1 : (renA β c1).size = c1.size := by rw [renA_map, Array.size_map]
      have hr := run_append_room (P := P) w ty o.type T ie hu hie (β b).1 n cu (renA β c1) hcur ⟨(β bx).1, ox + shf (β bx), none⟩ mm (capR (β bx) cx) (renL β news) hle hnews h1' hroom (by rw [hle, hsz1]; exact hfit)
      rw [Oper.semAt_eq _ _ _ hnd, exec a.eval _ _ _ w _ es ex hr]
      have hbl : liveB H' b = true := liveB_of hb' rfl
      have hren : renA β (c1.toList.take (n * ie.size) ++ news ++ c1.toList.drop (n * ie.size + mm * ie.size)).toArray = ((renA β c1).toList.take (n * ie.size) ++ renL β news ++ (renA β c1).toList.drop (n * ie.size + (renL β news).length)).toArray := by
        rw [renA_list, hle]
        simp only [renL_map, renA_map, Array.toList_map, List.map_append, List.map_take, List.map_drop]
      have hwc2 := hR.rel.wf bx _ hbx'
      have hwc1 := hR.rel.wf b _ hb'
      simp only [wfO, Bool.and_eq_true] at hwc2 hwc1
      have hob : wfO (domB H') (.cells (c1.toList.take (n * ie.size) ++ news ++ c1.toList.drop (n * ie.size + mm * ie.size)).toArray T (0, 0)) = true := by
        simp only [wfO, Bool.and_eq_true]
        refine ⟨?_, by simp⟩
        have e2 := hwc2.1
        have e1 := hwc1.1
        rw [wfA_list] at e1 e2
        show wfL _ (c1.toList.take (n * ie.size) ++ news ++ c1.toList.drop (n * ie.size + mm * ie.size)) = true
        rw [wfL_all] at e1 e2 ⊢
        intro v hv
        rcases List.mem_append.1 hv with hv | hv
        · rcases List.mem_append.1 hv with hv | hv
          · exact e1 v (List.mem_of_mem_take hv)
          · rw [← hN] at hv; exact e2 v (news_sub v hv)
        · exact e1 v (List.mem_of_mem_drop hv)
      have hRs := hR.rel.rew (w' := w.setRow (β b).1 ((renA β c1).toList.take (n * ie.size) ++ renL β news ++ (renA β c1).toList.drop (n * ie.size + (renL β news).length)).toArray) hbl (winB_of hb' rfl) (o := .cells (c1.toList.take (n * ie.size) ++ news ++ c1.toList.drop (n * ie.size + mm * ie.size)).toArray T (0, 0)) rfl hob
        ⟨fun _ => ⟨hc0, by rw [hren]; exact setRow_heap w (β b).1 _ _ T _ hcur⟩, fun h => (by cases h), fun h _ => absurd rfl h⟩ rfl rfl rfl (by simp) (fun k _ hk => setRow_other w (β b).1 k _ hk)
      have hl := look_merge1 b (.cells (c1.toList.take (n * ie.size) ++ news ++ c1.toList.drop (n * ie.size + mm * ie.size)).toArray T (0, 0)) H'
      have hd : ∀ i, domB (merge [(b, .cells (c1.toList.take (n * ie.size) ++ news ++ c1.toList.drop (n * ie.size + mm * ie.size)).toArray T (0, 0))] H') i = domB (hput H' b (.cells (c1.toList.take (n * ie.size) ++ news ++ c1.toList.drop (n * ie.size + mm * ie.size)).toArray T (0, 0))) i := fun i => by unfold domB; rw [hl]
      have := hR.put (v := .slice (some ⟨b, 0, none⟩) (n + mm) cu) (γ := β) (fun _ _ => rfl) (fun i hi => by rw [hd, domB_hput, hi, Bool.or_true]) (hRs.congr (fun _ _ => rfl) hl) o.dst (by show domB _ b = true; rw [hd, domB_hput]; simp)
      have e5 : ren β (.slice (some ⟨b, 0, none⟩) (n + mm) cu) = .slice (some ⟨(β b).1, 0, none⟩) (n + mm) cu := by simp only [ren, renP, capR_ne hcu, hsb]
      rw [e5] at this
      exact hK rfl _ _ _ (fun _ _ => rfl) this
      case FR2 =>
        intro k hk
        unfold domB at hk
        simp only [look] at hk
        split at hk
        · rename_i e
          rw [← e]
          left
          unfold domB
          simp only [look]
          split <;> simp
        · cases hk
    · -- out of a window
      rename_i zw cs u1 Tx u2 u3 hbx
      split at h
      case h_2 => cases h
      rename_i vs rest hlds
      split at h
      case isFalse => cases h
      rename_i hc
      obtain ⟨rfl, hzs, hsz, hn⟩ := hc
      have cell : ∀ {A : Nat → Prop} {w0 : World} {β : Num} {H' : Hp} {w : World}, Rel A w0 β H' w → look H' bx = some (.chan zw cs u1 Tx u2 u3) → (cs.toList.drop ox).take vs.length = vs → (u1 = true → zw ≤ ox) → ∀ j v, vs[j]? = some v → w.cell? ((⟨(β bx).1, ox + shf (β bx), none⟩ : Addr).add j) = some v := fun hRel hb' hcs hbd j v hv => by
        rw [Addr.add_lit, chan_shf hRel hb', Nat.add_zero]
        refine lk_cell hRel hb' (ox + j) (fun e => Nat.le_trans (hbd e) (Nat.le_add_right _ _)) v ?_
        rw [← hcs, List.getElem?_take] at hv
        split at hv
        · rw [List.getElem?_drop, Array.getElem?_toList] at hv; exact hv
        · cases hv
      split at h
      case h_3 => cases h
      · -- nothing yet
        rename_i hsv
        simp only [Option.some.injEq, Prod.mk.injEq] at h
        obtain ⟨rfl, rfl, rfl⟩ := h
        refine ⟨fun x => (bnd_all x.2).2, sub_one hbx, ?FR3, ?_⟩
        rotate_left
        intro hobl hwant ro nn Q K A w0 β D t' H' a w i hi hR ht hs hf hv hdr hK hP
        obtain ⟨⟨hm0, hml, hmb, hvl⟩, hvp, hcs⟩ := hobl.1
        have hbd := (bnd_all hobl.2).1
        refine wpOp_want hi (hwant a t' β hR.tm ht) ?_
        have hbx' : look H' bx = some (.chan zw cs u1 Tx u2 u3) := hs _ _ (by simp [look])
        have es : a.eval s = .slice none 0 0 := by rw [hR.eval (operand_dec hall (hos s (.inl rfl))), vev_same ht (hos s (.inl rfl)), hsv]; rfl
        have ex : a.eval x = .slice (some ⟨(β bx).1, ox + shf (β bx), none⟩) mm (capR (β bx) cx) := by rw [hR.eval (operand_dec hall (hos x (.inr rfl))), vev_same ht (hos x (.inr rfl)), hx]; rfl
        have hr := run_append_nil (P := P) (w := w) ty o.type e ie z hu hie hz ⟨(β bx).1, ox + shf (β bx), none⟩ mm (capR (β bx) cx) vs hvl (cell hR.rel hbx' hcs hbd) hm0 (by simp only [maxLen] at hml; omega) (by omega)
        rw [Oper.semAt_eq _ _ _ hnd, exec a.eval _ _ _ w _ es ex hr]
        have hn' : domB H' c.n = false := by
          rcases hf c.n (by simp [domB, look]) with h1 | h1
          · have h3 : c.n = bx := by
              unfold domB at h1
              simp only [look] at h1
              split at h1
              · rename_i e; exact e.symm
              · cases h1
            rw [h3, domB_of hbx] at hn
            cases hn
          · exact h1
        have hge := grownCap_ge w mm 0 e
        have hcm := grownCap_le_maxLen w mm 0 e hml
        have hl := look_merge1 c.n (.chan ie.size vs.toArray false e 0 false) H'
        have hd : ∀ i, domB (merge [(c.n, .chan ie.size vs.toArray false e 0 false)] H') i = domB (hput H' c.n (.chan ie.size vs.toArray false e 0 false)) i := fun i => by unfold domB; rw [hl]
        have hRs := hR.rel.drew.new hn' (o := .chan ie.size vs.toArray false e 0 false) rfl (x := .cells (vs.toArray ++ Builtin.zeroCells z.cells (grownCap w mm 0 e - mm)) e) (cap := grownCap w mm 0 e) ⟨fun _ => ⟨_, rfl, hcm, by
          simp only [Array.size_append, List.size_toArray, size_zeroCells, hzs, hvl, ← Nat.add_mul]
          congr 1
          omega, by
          simp only [Array.size_append, List.size_toArray]
          omega, by
          simp only [Array.toList_append, List.size_toArray]
          exact List.take_left⟩, fun h => (by cases h), by rw [wfA_list]; exact hvp⟩
        have hag : ∀ i, domB H' i = true → upd1 β c.n (w.drew.heap.size, grownCap w mm 0 e) i = β i := fun i hi => upd1_ne (fun e => by rw [e, hn'] at hi; cases hi)
        have := hR.put (v := .slice (some ⟨c.n, 0, none⟩) mm capU) hag (fun i hi => by rw [hd, domB_hput, hi, Bool.or_true]) (hRs.congr (fun _ _ => rfl) hl) o.dst (by simp [wfV, hd, domB_hput])
        have e5 : ren (upd1 β c.n (w.drew.heap.size, grownCap w mm 0 e)) (.slice (some ⟨c.n, 0, none⟩) mm capU) = .slice (some ⟨w.heap.size, 0, none⟩) mm (grownCap w mm 0 e) := by simp only [ren, renP, upd1_self, capR, if_true, shf0 (x := (w.drew.heap.size, grownCap w mm 0 e)) (le_capU hcm)]; rfl
        rw [e5] at this
        exact hK rfl _ _ _ hag this
        case FR3 =>
          intro k hk
          unfold domB at hk
          simp only [look] at hk
          split at hk
          · rename_i e; rw [← e]; exact .inr hn
          · cases hk
      · rename_i b hsv
        split at h
        case h_2 => cases h
        rename_i T hb
        simp only [Option.some.injEq, Prod.mk.injEq] at h
        obtain ⟨rfl, rfl, rfl⟩ := h
        refine ⟨fun x => (bnd_all x.2).2, sub_two hbx hb, ?FR4, ?_⟩
        rotate_left
        intro hobl hwant ro nn Q K A w0 β D t' H' a w i hi hR ht hs hf hv hdr hK hP
        obtain ⟨⟨hm0, hml, hmb, hvl⟩, hvp, hcs⟩ := hobl.1
        have hbd := (bnd_all hobl.2).1
        refine wpOp_want hi (hwant a t' β hR.tm ht) ?_
        obtain ⟨hbx', hb'⟩ := look_two hbx hb hs
        have hsb : shf (β b) = 0 := ((cells_at hR.rel hb' 0).2 rfl).1
        have es : a.eval s = .slice (some ⟨(β b).1, 0, none⟩) 0 0 := by rw [hR.eval (operand_dec hall (hos s (.inl rfl))), vev_same ht (hos s (.inl rfl)), hsv]; simp [ren, renP, capR_ne (x := β b) (show (0 : Nat) ≠ capU by decide), hsb]
        have ex : a.eval x = .slice (some ⟨(β bx).1, ox + shf (β bx), none⟩) mm (capR (β bx) cx) := by rw [hR.eval (operand_dec hall (hos x (.inr rfl))), vev_same ht (hos x (.inr rfl)), hx]; rfl
        have hr := run_append_grow (P := P) (w := w) ty o.type e ie z hu hie hz ⟨(β b).1, 0, none⟩ 0 0 [] (by simp) (fun j v hv => by simp at hv) ⟨(β bx).1, ox + shf (β bx), none⟩ mm (capR (β bx) cx) vs hvl (cell hR.rel hbx' hcs hbd) (by omega) (by simp only [maxLen] at hml; omega) (growslice_fits (by omega) (by rw [Nat.zero_add]; exact hmb))
        simp only [Nat.zero_add] at hr
        rw [Oper.semAt_eq _ _ _ hnd, exec a.eval _ _ _ w _ es ex hr]
        have hn' : domB H' c.n = false := by
          rcases hf c.n (by simp [domB, look]) with h1 | h1
          · have h3 : c.n = bx ∨ c.n = b := by
              by_cases e1 : bx = c.n
              · exact .inl e1.symm
              · by_cases e2 : b = c.n
                · exact .inr e2.symm
                · simp [domB, look, e1, e2] at h1
            rcases h3 with h3 | h3
            · rw [h3, domB_of hbx] at hn
              cases hn
            · rw [h3, domB_of hb] at hn
              cases hn
          · exact h1
        have hge := grownCap_ge w mm 0 e
        have hcm := grownCap_le_maxLen w mm 0 e hml
        have hl := look_merge1 c.n (.chan ie.size vs.toArray false e 0 false) H'
        have hd : ∀ i, domB (merge [(c.n, .chan ie.size vs.toArray false e 0 false)] H') i = domB (hput H' c.n (.chan ie.size vs.toArray false e 0 false)) i := fun i => by unfold domB; rw [hl]
        have hRs := hR.rel.drew.new hn' (o := .chan ie.size vs.toArray false e 0 false) rfl (x := .cells (([] : List Value).toArray ++ vs.toArray ++ Builtin.zeroCells z.cells (grownCap w mm 0 e - mm)) e) (cap := grownCap w mm 0 e) ⟨fun _ => ⟨_, rfl, hcm, by
          simp only [Array.size_append, List.size_toArray, size_zeroCells, hzs, hvl, List.length_nil, Nat.zero_add, ← Nat.add_mul]
          congr 1
          omega, by
          simp only [Array.size_append, List.size_toArray]
          omega, by
          simp only [Array.toList_append, List.size_toArray, List.nil_append]
          exact List.take_left⟩, fun h => (by cases h), by rw [wfA_list]; exact hvp⟩
        have hag : ∀ i, domB H' i = true → upd1 β c.n (w.drew.heap.size, grownCap w mm 0 e) i = β i := fun i hi => upd1_ne (fun e => by rw [e, hn'] at hi; cases hi)
        have := hR.put (v := .slice (some ⟨c.n, 0, none⟩) mm capU) hag (fun i hi => by rw [hd, domB_hput, hi, Bool.or_true]) (hRs.congr (fun _ _ => rfl) hl) o.dst (by simp [wfV, hd, domB_hput])
        have e5 : ren (upd1 β c.n (w.drew.heap.size, grownCap w mm 0 e)) (.slice (some ⟨c.n, 0, none⟩) mm capU) = .slice (some ⟨w.heap.size, 0, none⟩) mm (grownCap w mm 0 e) := by simp only [ren, renP, upd1_self, capR, if_true, shf0 (x := (w.drew.heap.size, grownCap w mm 0 e)) (le_capU hcm)]; rfl
        rw [e5] at this
        exact hK rfl _ _ _ hag this
        case FR4 =>
          intro k hk
          unfold domB at hk
          simp only [look] at hk
          split at hk
          · rename_i e; rw [← e]; exact .inr hn
          · cases hk
  · cases h
end

end Go.Proofs.YtcjjckokaiobcaaDoor

/- A walk by computation: maps whose keys are told. -/
namespace Go.Proofs.YtcjjckokaiobcaaDoor
open Go Go.RowKit
set_option linter.unusedSimpArgs false
set_option linter.unusedVariables false
attribute [local irreducible] shf

theorem keyB_is {d : TypeDesc} {v : Value} (h : keyB d v = true) : MapKept.IsKey d v ∧ wfV noB v = true := by
  unfold keyB at h
  split at h
  · exact ⟨trivial, rfl⟩
  · exact ⟨by simpa [MapKept.IsKey] using h, rfl⟩
  · cases h
theorem findNow_ren (β : Num) (d : TypeDesc) (k : Value) : ∀ (l : List MapEntry) (i : Nat) (r : Option (Nat × Value)), Instr.findNow d k l i = some r →
    Instr.findNow d k (l.map fun e => { key := e.key, val := ren β e.val, born := e.born }) i = some (r.map fun p => (p.1, ren β p.2))
  | [], i, r, h => by
    simp only [Instr.findNow, Option.some.injEq] at h
    subst h
    rfl
  | e :: l, i, r, h => by
    simp only [Instr.findNow, List.map_cons] at h ⊢
    cases hs : Instr.sameNow d k e.key with
    | none => rw [hs] at h; cases h
    | some b =>
      rw [hs] at h
      cases b with
      | true =>
        simp only [Option.some.injEq] at h
        subst h
        rfl
      | false => exact findNow_ren β d k l (i + 1) r h
theorem findNow_mem {d : TypeDesc} {k : Value} : ∀ (l : List MapEntry) (i : Nat) {j : Nat} {v : Value}, Instr.findNow d k l i = some (some (j, v)) → ∃ e ∈ l, e.val = v
  | [], i, j, v, h => by simp [Instr.findNow] at h
  | e :: l, i, j, v, h => by
    simp only [Instr.findNow] at h
    cases hs : Instr.sameNow d k e.key with
    | none => rw [hs] at h; cases h
    | some b =>
      rw [hs] at h
      cases b with
      | true =>
        simp only [Option.some.injEq, Prod.mk.injEq] at h
        exact ⟨e, List.mem_cons_self, h.2⟩
      | false =>
        obtain ⟨e', he, hv⟩ := findNow_mem l (i + 1) h
        exact ⟨e', List.mem_cons_of_mem _ he, hv⟩

section
variable {P : Program} {ops : Array Oper} {o : Oper}

theorem run_mapNew (w : World) (t kt et : TypeId) (d : TypeDesc) (r : Nat) (es : Array MapEntry) (clock : Nat) (k v : Value)
    (ht : P.underlying t = some (.map kt et)) (hk : P.underlying kt = some d) (hkey : MapKept.IsKey d k) (hb : w.heap[r]? = some (.map es clock)) (hf : Instr.findNow d k es.toList 0 = some none) :
    (Instr.mapUpdate t (.map (some r)) k v).run P w = .ok () { w with heap := w.heap.setIfInBounds r (.map (es.push { key := k, val := v, born := clock }) (clock + 1)) } := by
  simp [Instr.mapUpdate, run_underlying ht, MapKept.run_getObj_map hb, MapKept.run_checkKey hk hkey, MapKept.run_findKey hk hf, MapKept.run_setObj_map _ hb, Result.andThen]
theorem run_mapFound (w : World) (t kt et : TypeId) (d : TypeDesc) (r : Nat) (es : Array MapEntry) (clock : Nat) (k v : Value) (j : Nat) (ok : Bool)
    (ht : P.underlying t = some (.map kt et)) (hk : P.underlying kt = some d) (hkey : MapKept.IsKey d k) (hb : w.heap[r]? = some (.map es clock)) (hf : Instr.findNow d k es.toList 0 = some (some (j, v))) :
    (Instr.lookup t (.map (some r)) k ok).run P w = .ok (if ok then .tuple #[v, .bool true] else v) w := by
  simp [Instr.lookup, run_underlying ht, MapKept.run_getObj_map hb, MapKept.run_checkKey hk hkey, MapKept.run_findKey hk hf, Result.andThen]
theorem run_mapMiss (w : World) (t kt et : TypeId) (d : TypeDesc) (r : Nat) (es : Array MapEntry) (clock : Nat) (k z : Value) (ok : Bool)
    (ht : P.underlying t = some (.map kt et)) (hk : P.underlying kt = some d) (hkey : MapKept.IsKey d k) (hb : w.heap[r]? = some (.map es clock)) (hf : Instr.findNow d k es.toList 0 = some none)
    (hz : (P.info? et).bind (·.zero) = some z) :
    (Instr.lookup t (.map (some r)) k ok).run P w = .ok (if ok then .tuple #[z, .bool false] else z) w := by
  have hzv : (zeroValue et).run P w = .ok z w := by
    rw [Option.bind_eq_some_iff] at hz
    obtain ⟨i, hi, hz⟩ := hz
    simp [zeroValue, typeInfo, Sem.run_bind, hi, hz]
  simp [Instr.lookup, run_underlying ht, MapKept.run_getObj_map hb, MapKept.run_checkKey hk hkey, MapKept.run_findKey hk hf, hzv, Result.andThen]

theorem map_does {H : Hp} {t : List Value} {c c' : Ctl} {m : Mic} {Hr : Hp} (hall : o.op.operands.toList.all opdOK = true) (h : vmapo P H t o c = some (m, Hr, c')) :
    (AllP c'.obl → AllP c.obl) ∧ Sub Hr H ∧ (∀ k, domB m.set k = true → domB Hr k = true ∨ domB H k = false) ∧ (AllP c'.obl → Wants ops o t → MicDoes P ops o t Hr m) := by
  unfold vmapo at h
  split at h
  · -- a map that is made
    rename_i ty ho
    have hnd : ∀ c, o.op ≠ .defer c := fun c e => by rw [ho] at e; cases e
    split at h
    case isFalse => cases h
    rename_i hn
    simp only [Option.some.injEq, Prod.mk.injEq] at h
    obtain ⟨rfl, rfl, rfl⟩ := h
    refine ⟨id, fun _ _ h => (by cases h), ?FR, ?_⟩
    rotate_left
    intro _ hwant ro nn Q K A w0 β D t' H' a w i hi hR ht hs hf hv hdr hK hP
    refine wpOp_want hi (hwant a t' β hR.tm ht) ?_
    have hrun : (execOp a.eval o).run P w = .ok (.value (.map (some w.heap.size))) (w.alloc (.map #[] 0)) := by
      obtain ⟨dst, op, type, pos, after, guard⟩ := o
      simp only at ho
      subst ho
      simp only [execOp, Sem.run_bind, Option.map_none, run_makeMap, Result.andThen_ok]
      rfl
    rw [Oper.semAt_eq _ _ _ hnd, hrun]
    have hn' : domB H' c.n = false := by
      rcases hf c.n (by simp [domB, look]) with h1 | h1
      · cases h1
      · exact h1
    have hl := look_merge1 c.n (.map #[] 0) H'
    have hd : ∀ i, domB (merge [(c.n, .map #[] 0)] H') i = domB (hput H' c.n (.map #[] 0)) i := fun i => by unfold domB; rw [hl]
    have hRs := hR.rel.new hn' (o := .map #[] 0) rfl (x := .map #[] 0) (cap := 0) rfl
    have hag : ∀ i, domB H' i = true → upd1 β c.n (w.heap.size, 0) i = β i := fun i hi => upd1_ne (fun e => by rw [e, hn'] at hi; cases hi)
    have := hR.put (v := .map (some c.n)) hag (fun i hi => by rw [hd, domB_hput, hi, Bool.or_true]) (hRs.congr (fun _ _ => rfl) hl) o.dst (by simp [wfV, hd, domB_hput])
    have e5 : ren (upd1 β c.n (w.heap.size, 0)) (.map (some c.n)) = .map (some w.heap.size) := by simp only [ren, upd1_self]
    rw [e5] at this
    exact hK rfl _ _ _ hag this
    case FR =>
      intro k hk
      unfold domB at hk
      simp only [look] at hk
      split at hk
      · rename_i e; rw [← e]; exact .inr hn
      · cases hk
  · -- a key that is new
    rename_i ty mm k x ho
    have hnd : ∀ c, o.op ≠ .defer c := fun c e => by rw [ho] at e; cases e
    have hom : mm ∈ o.op.operands := by rw [ho]; simp [Op.operands]
    have hok : k ∈ o.op.operands := by rw [ho]; simp [Op.operands]
    have hox : x ∈ o.op.operands := by rw [ho]; simp [Op.operands]
    split at h
    case h_2 => cases h
    rename_i b hm
    split at h
    case h_2 => cases h
    rename_i es clock hb
    split at h
    case h_2 => cases h
    rename_i kt et hu
    split at h
    case h_2 => cases h
    rename_i d hd0
    split at h
    case h_2 => cases h
    rename_i hfind
    split at h
    case isFalse => cases h
    rename_i hkey
    simp only [Option.some.injEq, Prod.mk.injEq] at h
    obtain ⟨rfl, rfl, rfl⟩ := h
    obtain ⟨hisk, hkp⟩ := keyB_is hkey
    refine ⟨id, sub_one hb, ?FR2, ?_⟩
    rotate_left
    intro _ hwant ro nn Q K A w0 β D t' H' a w i hi hR ht hs hf hv hdr hK hP
    refine wpOp_want hi (hwant a t' β hR.tm ht) ?_
    have hb' : look H' b = some (.map es clock) := hs _ _ (by simp [look])
    have em : a.eval mm = .map (some (β b).1) := by rw [hR.eval (operand_dec hall hom), vev_same ht hom, hm]; rfl
    have ek : a.eval k = vev t k := by rw [hR.eval (operand_dec hall hok), vev_same ht hok, ren_plain β hkp]
    have ex : a.eval x = ren β (vev t x) := by rw [hR.eval (operand_dec hall hox), vev_same ht hox]
    have hlies : w.heap[(β b).1]? = some (.map (renEs β es) clock) := hR.rel.lies b _ hb'
    have hf2 := findNow_ren β d (vev t k) es.toList 0 none hfind
    have hr := run_mapNew (P := P) w ty kt et d (β b).1 (renEs β es) clock (vev t k) (ren β (vev t x)) hu hd0 hisk hlies hf2
    have hrun : (execOp a.eval o).run P w = .ok .skip { w with heap := w.heap.setIfInBounds (β b).1 (.map ((renEs β es).push { key := vev t k, val := ren β (vev t x), born := clock }) (clock + 1)) } := by
      obtain ⟨dst, op, type, pos, after, guard⟩ := o
      simp only at ho
      subst ho
      simp only [execOp, Sem.run_bind, em, ek, ex, hr, Result.andThen_ok]
      rfl
    rw [Oper.semAt_eq _ _ _ hnd, hrun]
    have hwx : wfV (domB H') (vev t x) = true := by rw [← vev_same ht hox]; exact vev_wf hR.wt (operand_dec hall hox)
    have hwes : wfEs (domB H') es = true := hR.rel.wf b _ hb'
    have hob : wfO (domB H') (.map ⟨es.toList ++ [{ key := vev t k, val := vev t x, born := clock }]⟩ (clock + 1)) = true := by
      simp only [wfO, wfEs, List.all_append, List.all_cons, List.all_nil, hkp, hwx, Bool.and_true]
      exact hwes
    have hren : (renEs β es).push { key := vev t k, val := ren β (vev t x), born := clock } = renEs β ⟨es.toList ++ [{ key := vev t k, val := vev t x, born := clock }]⟩ := by
      apply Array.ext'
      simp [renEs]
    have hlt := (Array.getElem?_eq_some_iff.1 hlies).1
    have hRs := hR.rel.rew (w' := { w with heap := w.heap.setIfInBounds (β b).1 (.map ((renEs β es).push { key := vev t k, val := ren β (vev t x), born := clock }) (clock + 1)) }) (liveB_of hb' rfl) (winB_of hb' rfl) (o := .map ⟨es.toList ++ [{ key := vev t k, val := vev t x, born := clock }]⟩ (clock + 1)) rfl hob
      (by rw [hren]; exact (MapKept.heap_set hlies).1) rfl rfl rfl (by simp) (fun k _ hk => (MapKept.heap_set hlies).2 k hk)
    have hl := look_merge1 b (.map ⟨es.toList ++ [{ key := vev t k, val := vev t x, born := clock }]⟩ (clock + 1)) H'
    have hd : ∀ i, domB (merge [(b, .map ⟨es.toList ++ [{ key := vev t k, val := vev t x, born := clock }]⟩ (clock + 1))] H') i = domB (hput H' b (.map ⟨es.toList ++ [{ key := vev t k, val := vev t x, born := clock }]⟩ (clock + 1))) i := fun i => by unfold domB; rw [hl]
    exact hK rfl β _ _ (fun _ _ => rfl) (hR.put (fun _ _ => rfl) (fun i hi => by rw [hd, domB_hput, hi, Bool.or_true]) (hRs.congr (fun _ _ => rfl) hl) o.dst (v := undef) rfl)
    case FR2 =>
      intro k hk
      unfold domB at hk
      simp only [look] at hk
      split at hk
      · rename_i e
        rw [← e]
        left
        simp [domB, look]
      · cases hk
  · -- what lies at a key
    rename_i ty mm k ok ho
    have hnd : ∀ c, o.op ≠ .defer c := fun c e => by rw [ho] at e; cases e
    have hom : mm ∈ o.op.operands := by rw [ho]; simp [Op.operands]
    have hok : k ∈ o.op.operands := by rw [ho]; simp [Op.operands]
    split at h
    case h_2 => cases h
    rename_i b hm
    split at h
    case h_2 => cases h
    rename_i es clock hb
    split at h
    case h_2 => cases h
    rename_i kt et hu
    split at h
    case h_2 => cases h
    rename_i d hd0
    split at h
    case h_3 => cases h
    · rename_i j v hfind
      split at h
      case isFalse => cases h
      rename_i hkey
      simp only [Option.some.injEq, Prod.mk.injEq] at h
      obtain ⟨rfl, rfl, rfl⟩ := h
      obtain ⟨hisk, hkp⟩ := keyB_is hkey
      refine ⟨id, sub_one hb, fun k hk => (by cases hk), fun _ hwant => ?_⟩
      refine quiet_does hnd hwant ?_
      intro A w0 β D t' H' a w hR ht hs
      have hb' : look H' b = some (.map es clock) := hs _ _ (by simp [look])
      have em : a.eval mm = .map (some (β b).1) := by rw [hR.eval (operand_dec hall hom), vev_same ht hom, hm]; rfl
      have ek : a.eval k = vev t k := by rw [hR.eval (operand_dec hall hok), vev_same ht hok, ren_plain β hkp]
      have hlies : w.heap[(β b).1]? = some (.map (renEs β es) clock) := hR.rel.lies b _ hb'
      have hf2 := findNow_ren β d (vev t k) es.toList 0 _ hfind
      have hr := run_mapFound (P := P) w ty kt et d (β b).1 (renEs β es) clock (vev t k) (ren β v) j ok hu hd0 hisk hlies hf2
      obtain ⟨dst, op', type, pos, after, guard⟩ := o
      simp only at ho
      subst ho
      simp only [execOp, em, ek, Sem.run_bind, hr, Result.andThen_ok]
      cases ok <;> rfl
    · rename_i hfind
      split at h
      case h_2 => cases h
      rename_i z hz
      split at h
      case isFalse => cases h
      rename_i hkey
      obtain ⟨hkey, hzp⟩ := hkey
      simp only [Option.some.injEq, Prod.mk.injEq] at h
      obtain ⟨rfl, rfl, rfl⟩ := h
      obtain ⟨hisk, hkp⟩ := keyB_is hkey
      refine ⟨id, sub_one hb, fun k hk => (by cases hk), fun _ hwant => ?_⟩
      refine quiet_does hnd hwant ?_
      intro A w0 β D t' H' a w hR ht hs
      have hb' : look H' b = some (.map es clock) := hs _ _ (by simp [look])
      have em : a.eval mm = .map (some (β b).1) := by rw [hR.eval (operand_dec hall hom), vev_same ht hom, hm]; rfl
      have ek : a.eval k = vev t k := by rw [hR.eval (operand_dec hall hok), vev_same ht hok, ren_plain β hkp]
      have hlies : w.heap[(β b).1]? = some (.map (renEs β es) clock) := hR.rel.lies b _ hb'
      have hf2 := findNow_ren β d (vev t k) es.toList 0 _ hfind
      have hr := run_mapMiss (P := P) w ty kt et d (β b).1 (renEs β es) clock (vev t k) z ok hu hd0 hisk hlies hf2 hz
      obtain ⟨dst, op', type, pos, after, guard⟩ := o
      simp only at ho
      subst ho
      simp only [execOp, em, ek, Sem.run_bind, hr, Result.andThen_ok]
      cases ok
      · simp only [Bool.false_eq_true, if_false, ren_plain β hzp]; rfl
      · simp only [if_true, ren, renA, renL, ren_plain β hzp]; rfl
  · -- nothing is appended
    rename_i s x ty ty' ho
    have hnd : ∀ c, o.op ≠ .defer c := fun c e => by rw [ho] at e; cases e
    have hos : s ∈ o.op.operands := by rw [ho]; simp [Op.operands, Call.operands]
    have hox : x ∈ o.op.operands := by rw [ho]; simp [Op.operands, Call.operands]
    have exec : ∀ (ρ : Operand → Value) (vs vx : Value) (r : Value) (w w' : World), ρ s = vs → ρ x = vx → (Builtin.append_ #[ty, ty'] o.type #[vs, vx]).run P w = .ok r w' → (execOp ρ o).run P w = .ok (.value r) w' := fun ρ vs vx r w w' e1 e2 hr => by
      obtain ⟨dst, op, type, pos, after, guard⟩ := o
      simp only at ho hr
      subst ho
      simp only [execOp, resolve, invoke, builtin, Sem.run_bind, Sem.run_pure, Result.andThen_ok, List.map_toArray, List.map_cons, List.map_nil, e1, e2, hr]
    split at h
    case h_2 => cases h
    rename_i e hu
    split at h
    case h_2 => cases h
    rename_i ie hie
    split at h
    case h_2 => cases h
    rename_i ax cx hx
    have hxx : ∀ β : Num, ∃ ax' cx', ren β (.slice ax 0 cx) = .slice ax' 0 cx' := fun β => by cases ax <;> exact ⟨_, _, rfl⟩
    have app : ∀ (w : World) (base : Option Addr) (n cu : Nat) (ax : Option Addr) (cx : Nat), n ≤ cu → ty = ty' → (Builtin.append_ #[ty, ty'] o.type #[.slice base n cu, .slice ax 0 cx]).run P w = .ok (.slice base n cu) w := fun w base n cu ax cx hn ht => by
      subst ht
      have hfc : (Builtin.firstCells ie.size 0 (.slice ax 0 cx)).run P w = .ok #[] w := by
        cases ax <;> simp [Builtin.firstCells, loadCells, loadCellsFrom]
      cases base <;> simp [Builtin.append_, run_underlying hu, sizeOf, typeInfo, hie, Builtin.lenOf, hfc, hn, storeCells]
    split at h
    case h_3 => cases h
    · rename_i hsv
      split at h
      case isFalse => cases h
      rename_i ht
      simp only [Option.some.injEq, Prod.mk.injEq] at h
      obtain ⟨rfl, rfl, rfl⟩ := h
      refine ⟨id, fun _ _ h => (by cases h), fun k hk => (by cases hk), fun _ hwant => ?_⟩
      refine quiet_does hnd hwant ?_
      intro A w0 β D t' H' a w hR ht' hs
      obtain ⟨ax', cx', exx⟩ := hxx β
      have es : a.eval s = .slice none 0 0 := by rw [hR.eval (operand_dec hall hos), vev_same ht' hos, hsv]; rfl
      have ex : a.eval x = .slice ax' 0 cx' := by rw [hR.eval (operand_dec hall hox), vev_same ht' hox, hx, exx]
      exact exec a.eval _ _ _ w w es ex (app w none 0 0 ax' cx' (Nat.le_refl _) ht)
    · rename_i b off n cu hsv
      split at h
      case h_2 =>
        -- onto one that may grow
        rename_i hcu
        have hcu : cu = capU := Nat.eq_of_beq_eq_true hcu
        split at h
        case h_2 => cases h
        rename_i c1 T zz hb
        split at h
        case isFalse => cases h
        rename_i ht
        obtain ⟨ht, hz, hn⟩ := ht
        simp only [Option.some.injEq, Prod.mk.injEq] at h
        obtain ⟨rfl, rfl, rfl⟩ := h
        refine ⟨id, sub_one hb, fun k hk => (by cases hk), fun _ hwant => ?_⟩
        refine quiet_does hnd hwant ?_
        intro A w0 β D t' H' a w hR ht' hs
        obtain ⟨ax', cx', exx⟩ := hxx β
        obtain ⟨cur, h1, h2, h3, h4, h5⟩ := (hR.rel.lies b _ (hs b (.cells c1 T (1, zz)) (by simp [look]))).2.1 rfl
        have hle : n ≤ (β b).2 := by
          rw [renA_map, Array.size_map] at h4
          exact Nat.le_of_mul_le_mul_right (Nat.le_trans hn (Nat.le_trans h4 (Nat.le_of_eq h3))) hz
        have er : ren β (.slice (some ⟨b, off, none⟩) n capU) = .slice (some (renP β ⟨b, off, none⟩)) n (β b).2 := by simp only [ren, capR, if_true]
        have es : a.eval s = .slice (some (renP β ⟨b, off, none⟩)) n (β b).2 := by rw [hR.eval (operand_dec hall hos), vev_same ht' hos, hsv, hcu, er]
        have ex : a.eval x = .slice ax' 0 cx' := by rw [hR.eval (operand_dec hall hox), vev_same ht' hox, hx, exx]
        rw [er]
        exact exec a.eval _ _ _ w w es ex (app w _ n (β b).2 ax' cx' hle ht)
      rename_i hcu
      split at h
      case isFalse => cases h
      rename_i ht
      obtain ⟨ht, hn⟩ := ht
      have hcu : cu ≠ capU := fun e => by rw [e] at hcu; simp at hcu
      simp only [Option.some.injEq, Prod.mk.injEq] at h
      obtain ⟨rfl, rfl, rfl⟩ := h
      refine ⟨id, fun _ _ h => (by cases h), fun k hk => (by cases hk), fun _ hwant => ?_⟩
      refine quiet_does hnd hwant ?_
      intro A w0 β D t' H' a w hR ht' hs
      obtain ⟨ax', cx', exx⟩ := hxx β
      have er : ren β (.slice (some ⟨b, off, none⟩) n cu) = .slice (some (renP β ⟨b, off, none⟩)) n cu := by simp only [ren, capR_ne hcu]
      have es : a.eval s = .slice (some (renP β ⟨b, off, none⟩)) n cu := by rw [hR.eval (operand_dec hall hos), vev_same ht' hos, hsv, er]
      have ex : a.eval x = .slice ax' 0 cx' := by rw [hR.eval (operand_dec hall hox), vev_same ht' hox, hx, exx]
      rw [er]
      exact exec a.eval _ _ _ w w es ex (app w _ n cu ax' cx' hn ht)
  · -- a slice of a window that is not looked into
    rename_i ty x lo hi ho
    have hnd : ∀ c, o.op ≠ .defer c := fun c e => by rw [ho] at e; cases e
    have hox : x ∈ o.op.operands := by rw [ho]; simp [Op.operands]
    have hoh : hi ∈ o.op.operands := by rw [ho]; simp [Op.operands]
    split at h
    case h_2 => cases h
    rename_i b off nn cp hx
    split at h
    case h_2 => cases h
    rename_i i kh hh hlo hhi
    split at h
    case h_2 => cases h
    rename_i z cs T u2 u3 hb
    split at h
    case h_2 => cases h
    rename_i e hu
    split at h
    case h_2 => cases h
    rename_i ti hti
    simp only [Option.some.injEq, Prod.mk.injEq] at h
    obtain ⟨rfl, rfl, rfl⟩ := h
    refine ⟨fun x => x.2, sub_one hb, fun k hk => (by cases hk), fun hobl hwant => ?_⟩
    obtain ⟨hi0, hi1, hhn, hncp, hcp⟩ := hobl.1
    refine quiet_does hnd hwant ?_
    intro A w0 β D t' H' a w hR ht hs
    have hsb : shf (β b) = 0 := chan_shf hR.rel (hs b (Obj.chan z cs true T u2 u3) (by simp [look]))
    have cU : ∀ y, y ≤ cp → capR (β b) y = y := fun y hy => by
      unfold capR
      rw [if_neg]
      intro hh
      have : capU ≤ maxLen := by rw [← hh]; exact Nat.le_trans hy hcp
      exact absurd this (by decide)
    have ex : a.eval x = .slice (some ⟨(β b).1, off, none⟩) nn cp := by rw [hR.eval (operand_dec hall hox), vev_same ht hox, hx, ren, cU cp (Nat.le_refl _)]; simp [renP, hsb]
    have eh : a.eval hi = .int kh hh := by rw [hR.eval (operand_dec hall hoh), vev_same ht hoh, hhi]; rfl
    have he : P.elem ty = e := by simp [Program.elem, hu]
    have hu' : P.underlying ty = some (.slice (P.elem ty)) := by rw [he]; exact hu
    have hv : ren β (.slice (some ⟨b, off + i.toNat * ti.size, none⟩) (hh.toNat - i.toNat) (cp - i.toNat)) = .slice (some ⟨(β b).1, off + i.toNat * ti.size, none⟩) (hh.toNat - i.toNat) (cp - i.toNat) := by
      simp only [ren, renP, hsb, Nat.add_zero, cU _ (Nat.sub_le _ _)]
    rw [hv]
    have hci : cp ≠ i.toNat := by omega
    cases lo with
    | none =>
      have hi00 : i = 0 := by simp only [intO, Option.some.injEq] at hlo; exact hlo.symm
      subst hi00
      obtain ⟨dst, op, type, pos, after, guard⟩ := o
      simp only at ho
      subst ho
      simp only [execOp, ex, eh, Option.map_some, Option.map_none, Sem.run_bind, run_sliceAt_slice w ty _ _ _ _ hu', run_slice_h w ty _ nn cp hu' kh hh (by omega) (by omega), he]
      simp only [sizeOf, typeInfo, hti, Sem.run_bind, Sem.run_pure, Result.andThen_ok, sliced, Option.map_some, Addr.add_lit]
      have : ¬ cp = 0 := fun e => hci (by rw [e]; rfl)
      simp_all
    | some lo =>
      have hol : lo ∈ o.op.operands := by rw [ho]; simp [Op.operands]
      simp only [intO] at hlo
      split at hlo
      case h_2 => cases hlo
      rename_i kl i' hl
      simp only [Option.some.injEq] at hlo
      subst hlo
      have el : a.eval lo = .int kl i' := by rw [hR.eval (operand_dec hall hol), vev_same ht hol, hl]; rfl
      obtain ⟨dst, op, type, pos, after, guard⟩ := o
      simp only at ho
      subst ho
      simp only [execOp, ex, eh, el, Option.map_some, Option.map_none, Sem.run_bind, run_sliceAt_slice w ty _ _ _ _ hu', run_slice_lh w ty _ nn cp hu' kl kh i' hh hi0 (by omega) (by omega), he]
      simp only [sizeOf, typeInfo, hti, Sem.run_bind, Sem.run_pure, Result.andThen_ok, sliced, Option.map_some, Addr.add_lit]
      simp_all
  · cases h
end

end Go.Proofs.YtcjjckokaiobcaaDoor
