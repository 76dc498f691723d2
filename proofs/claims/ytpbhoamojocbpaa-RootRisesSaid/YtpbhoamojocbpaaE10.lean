/- A walk by computation: functions, what waits for their end, and rounds of loops. -/
import Derived.Test.YtpbhoamojocbpaaE9
namespace Go.Proofs.Ytpbhoamojocbpaa
open Go Go.RowKit
set_option linter.unusedSimpArgs false
set_option linter.unusedVariables false

section
variable {P : Program}

def recoverV (u : FrameMode) : Value × FrameMode :=
  match u with
  | .panicking ({ v, recovered := false, goexit := false } :: older) => (v, .panicking ({ v, recovered := true } :: older))
  | u => (.nilIface, u)
def isRecover (o : Oper) : Bool :=
  match o.guard, o.op with
  | none, .call { callee := .builtin .recover, args := ⟨[]⟩, .. } => true
  | _, _ => false
def vassign (ops : Array Oper) : List Nat → List Value → Option (List Value)
  | [], t => some t
  | i :: r, t =>
    match ops[i]? with
    | some o =>
      match o.guard, o.op with
      | none, .assign x => if opdOK x then vassign ops r (vput t o.dst (vev t x)) else none
      | none, .move x => if opdOK x then vassign ops r (vput t o.dst (vev t x)) else none
      | _, _ => none
    | none => none

theorem RelA.self {A : Nat → Prop} {w0 : World} {β : Nat → Nat} {D : List VDef} {t : List Value} {H : Hp} {a : Act} {w : World} (h : RelA A w0 β D t H a w) (dst : Option Tmp) {v : Value} (hv : wfV (domB H) v = true) :
    RelA A w0 β D (vput t dst v) H (a.put dst (ren β v)) w := h.put (fun _ _ => rfl) (fun _ h => h) h.rel dst hv

theorem vassign_does {n : Nat} {ops : Array Oper} {Q : Exit → Act → List Frame → World → Prop} {cs : List Frame} : ∀ (is : List Nat) (t t' : List Value), vassign ops is t = some t' →
    ∀ (A : Nat → Prop) (w0 : World) (β : Nat → Nat) (D : List VDef) (H : Hp) (a : Act) (w : World), RelA A w0 β D t H a w → (∀ a', RelA A w0 β D t' H a' w → Q .normal a' cs w) → wpOpsSIn Fence.wide n P ops Q is a cs w := by
  intro is
  induction is with
  | nil =>
    intro t t' h A w0 β D H a w hR hQ
    simp only [vassign, Option.some.injEq] at h
    subst h
    exact hQ a hR
  | cons i r ih =>
    intro t t' h A w0 β D H a w hR hQ
    simp only [vassign] at h
    split at h
    · rename_i o ho
      have key : ∀ x, o.guard = none → (o.op = .assign x ∨ o.op = .move x) → opdOK x = true → vassign ops r (vput t o.dst (vev t x)) = some t' → wpOpsSIn Fence.wide n P ops Q (i :: r) a cs w := by
        intro x hg hop hx hv
        simp only [wpOpsSIn, ho]
        refine ⟨fun _ _ => trivial, ?_⟩
        have hw : Region.wanted o (yielded ops a.tmps) = true := by unfold Region.wanted; rw [hg]
        rw [if_pos hw]
        have hrun : (execOp a.eval o).run P w = .ok (.value (ren β (vev t x))) w := by
          rw [← hR.eval hx]
          unfold execOp
          rcases hop with h | h <;> (rw [h]; rfl)
        rw [hrun]
        exact ih _ _ hv A w0 β D H _ w (hR.self o.dst (vev_wf hR.wt hx)) hQ
      split at h
      · rename_i x hg hop
        split at h
        · rename_i hx; exact key x hg (.inl hop) hx h
        · cases h
      · rename_i x hg hop
        split at h
        · rename_i hx; exact key x hg (.inr hop) hx h
        · cases h
      · cases h
    · cases h

def frame0 (fn : Func) (args : Array Value) : List Value := args.toList ++ List.replicate (fn.ntmps - args.size) undef
theorem frame0_rel {A : Nat → Prop} {w0 : World} {β : Nat → Nat} {H : Hp} {w : World} {fn : Func} {args : Array Value} (hR : Rel A w0 β H w) (hargs : wfA (domB H) args = true) :
    RelA A w0 β [] (frame0 fn args) H { tmps := renA β args ++ Array.replicate (fn.ntmps - (renA β args).size) undef, defers := [] } w := by
  refine ⟨?_, rfl, ?_, rfl, hR⟩
  · have hsz : (renA β args).size = args.size := by rw [renA_map, Array.size_map]
    rw [hsz, renA_map, renL_map]
    apply Array.ext'
    simp only [frame0, List.map_append, List.map_replicate, Array.toList_append, Array.toList_map, Array.toList_replicate]
    rfl
  · rw [wfL_all]
    rw [wfA_list, wfL_all] at hargs
    intro x hx
    rcases List.mem_append.1 hx with hx | hx
    · exact hargs x hx
    · rw [List.eq_of_mem_replicate hx]; rfl

def exEnds : Ex → Bool
  | .normal => true
  | .ret => true
  | _ => false
/-- A function that is called at the end of another. -/
def vdcall (P : Program) (call : CallF) (m : Nat) (f : FuncId) (args : Array Value) (u : FrameMode) (H : Hp) (c : Ctl) : Option (FrameMode × Hp × Ctl) :=
  match P.funcs[f]? with
  | some fn =>
    match fn.body with
    | some (.seq (.region _ ops false) rest) =>
      match ops[0]? with
      | some o =>
        if isRecover o then
          if wfV noB (recoverV u).1 then
            match vassign ops (List.range' 1 (ops.size - 1)) (vput (frame0 fn args) o.dst (recoverV u).1) with
            | some t2 =>
              match vcode P call none m rest t2 [] H c with
              | some (ex, t3, [], H3, c3) => if exEnds ex && (vresults P fn t3 H3).isSome then some ((recoverV u).2, H3, c3) else none
              | _ => none
            | none => none
          else none
        else none
      | none => none
    | _ => none
  | none => none

theorem vdcall_does {call : CallF} (hcall : CallOK P call) (hmix : P.follows .mixedOrders = true) {m : Nat} {f : FuncId} {args : Array Value} {u : FrameMode} {H : Hp} {c : Ctl} {u' : FrameMode} {H' : Hp} {c' : Ctl}
    (h : vdcall P call m f args u H c = some (u', H', c')) : (AllP c'.obl → AllP c.obl) ∧ (∀ i, domB H i = true → domB H' i = true) ∧
    (AllP c'.obl → ∀ (n : Nat) (A : Nat → Prop) (w0 : World) (β : Nat → Nat) (w : World), Rel A w0 β H w → wfA (domB H) args = true →
      CallsDIn Fence.wide n P f (renA β args) u w fun e u2 w' => (∃ v, e = .returned v) ∧ u2 = u' ∧ ∃ β', (∀ i, domB H i = true → β' i = β i) ∧ Rel A w0 β' H' w') := by
  unfold vdcall at h
  split at h
  case h_2 => cases h
  rename_i fn hf
  split at h
  case h_2 => cases h
  rename_i id ops rest hb
  split at h
  case h_2 => cases h
  rename_i o ho
  split at h
  case isFalse => cases h
  rename_i hrec
  split at h
  case isFalse => cases h
  rename_i hv0
  split at h
  case h_2 => cases h
  rename_i t2 hass
  split at h
  case h_2 => cases h
  rename_i ex t3 H3 c3 hv
  split at h
  case isFalse => cases h
  rename_i hend
  simp only [Option.some.injEq, Prod.mk.injEq] at h
  obtain ⟨rfl, rfl, rfl⟩ := h
  obtain ⟨m1, d1, r1⟩ := vcode_does hcall hmix none m _ _ _ _ _ _ _ _ _ _ hv
  refine ⟨m1, d1, fun z n A w0 β w hR hargs => callsDIn_of_wpSIn hf hb trivial (fun c₀ cs hu => wpSIn_seq (wpSIn_region ?_))⟩
  have hsz : 0 < ops.size := (Array.getElem?_eq_some_iff.1 ho).1
  have hrange : List.range ops.size = 0 :: List.range' 1 (ops.size - 1) := by
    rw [List.range_eq_range']
    obtain ⟨k, hk⟩ : ∃ k, ops.size = k + 1 := ⟨ops.size - 1, by omega⟩
    rw [hk, Nat.add_sub_cancel, List.range'_succ]
  rw [hrange]
  have hR0 := frame0_rel (fn := fn) hR hargs
  have hgo : o.guard = none ∧ ∀ a : Act, (execOp a.eval o).run P w = .ok .recover w := by
    obtain ⟨dst, op, type, pos, after, guard⟩ := o
    unfold isRecover at hrec
    simp only at hrec
    split at hrec
    · exact ⟨rfl, fun a => rfl⟩
    · cases hrec
  simp only [wpOpsSIn, ho]
  refine ⟨fun _ _ => trivial, ?_⟩
  have hw : ∀ y, Region.wanted o y = true := fun y => by unfold Region.wanted; rw [hgo.1]
  rw [if_pos (hw _), hgo.2]
  -- behind the recover
  have go : ∀ (cs' : List Frame), cs' = { c₀ with mode := (recoverV u).2 } :: cs →
      wpOpsSIn Fence.wide n P ops (Exit.thenS (rest.wpSIn Fence.wide n P (bodyPostS P fn c₀ cs fun e u2 w' => (∃ v, e = .returned v) ∧ u2 = (recoverV u).2 ∧ ∃ β', (∀ i, domB H i = true → β' i = β i) ∧ Rel A w0 β' H3 w')) (bodyPostS P fn c₀ cs fun e u2 w' => (∃ v, e = .returned v) ∧ u2 = (recoverV u).2 ∧ ∃ β', (∀ i, domB H i = true → β' i = β i) ∧ Rel A w0 β' H3 w'))
        (List.range' 1 (ops.size - 1)) (({ tmps := renA β args ++ Array.replicate (fn.ntmps - (renA β args).size) undef, defers := [] } : Act).put o.dst (recoverV u).1) cs' w := by
    rintro cs' rfl
    have hp := hR0.self o.dst (v := (recoverV u).1) (wfV_mono (p := noB) (fun _ h => (by cases h)) _ hv0)
    rw [ren_plain β hv0] at hp
    refine vassign_does _ _ _ hass A w0 β [] H _ w hp (fun a' hR' => ?_)
    refine wpSIn_of_wpIn rfl (wpIn_mono (r1 z (fun l hl => by cases hl) n A w0 β a' w hR') ?_)
    rintro e a'' w'' ⟨rfl, β', hb', hR0''⟩
    rw [Bool.and_eq_true] at hend
    have hR'' : RelA A w0 β' [] t3 H3 a'' w'' := by
      cases ex with
      | pan ch => cases hend.1
      | _ => exact hR0''
    obtain ⟨v, hres⟩ := Option.isSome_iff_exists.1 hend.2
    have hfin : a''.defers = [] ∧ ∃ u2, ({ c₀ with mode := (recoverV u).2 } :: cs : List Frame) = { c₀ with mode := u2 } :: cs ∧ ∃ v, (results fn a''.tmps).run P w'' = .ok v w'' ∧
        ((∃ v', Ending.returned v = .returned v') ∧ u2 = (recoverV u).2 ∧ ∃ β', (∀ i, domB H i = true → β' i = β i) ∧ Rel A w0 β' H3 w'') :=
      ⟨hR''.df, (recoverV u).2, rfl, ren β' v, by rw [hR''.tm]; exact vresults_run hR''.rel hres, ⟨_, rfl⟩, rfl, β', hb', hR''.rel⟩
    cases ex with
    | normal => exact hfin
    | ret => exact hfin
    | _ => cases hend.1
  have hrd : recoverD (c₀ :: cs) = match u with | .panicking ({ v, recovered := false, goexit := false } :: older) => some (v, { c₀ with mode := .panicking ({ v, recovered := true } :: older) } :: cs) | _ => none := by
    subst hu
    rfl
  have hc₀ : ({ c₀ with mode := u } : Frame) = c₀ := by subst hu; rfl
  simp only
  cases hr : recoverD (c₀ :: cs) with
  | none =>
    simp only
    have hnone : recoverV u = (.nilIface, u) := by
      rw [hr] at hrd
      unfold recoverV
      split
      · rename_i v older
        cases hrd
      · rfl
    have := go (c₀ :: cs) (by rw [hnone]; simp only; rw [hc₀])
    rw [hnone] at this ⊢
    exact this
  | some vc =>
    obtain ⟨v, cs'⟩ := vc
    simp only
    rw [hr] at hrd
    have hsome : ∃ older, u = .panicking ({ v, recovered := false, goexit := false } :: older) ∧ cs' = { c₀ with mode := .panicking ({ v, recovered := true } :: older) } :: cs := by
      split at hrd
      · rename_i v' older
        simp only [Option.some.injEq, Prod.mk.injEq] at hrd
        obtain ⟨rfl, rfl⟩ := hrd
        exact ⟨older, rfl, rfl⟩
      · cases hrd
    obtain ⟨older, hu2, hcs⟩ := hsome
    have e1 : recoverV u = (v, .panicking ({ v, recovered := true } :: older)) := by rw [hu2]; rfl
    have := go cs' (by rw [e1]; exact hcs)
    rw [e1] at this ⊢
    exact this

def vleave (P : Program) (call : CallF) (m : Nat) (fn : Func) (t : List Value) : List VDef → FrameMode → Hp → Ctl → Option (Res × Hp × Ctl)
  | [], .returning, H, c =>
    match vresults P fn t H with
    | some v => some (.ret v, H, c)
    | none => none
  | [], .panicking ch, H, c => some (.pan ch, H, c)
  | [], .run, _, _ => none
  | _ :: _, .run, _, _ => none
  | .mark r :: ds, u, H, c =>
    match look H r with
    | some (.deferred (some [])) => vleave P call m fn t ds u (hput H r (.deferred none)) c
    | _ => none
  | .fn f cap args :: ds, u, H, c =>
    if hasBody P f then
      match vdcall P call m f (args ++ cap) u H c with
      | some (u', H', c') => vleave P call m fn t ds (settle u') H' c'
      | none => none
    else none

theorem leavesInM_mono {n : Nat} {fn : Func} {tm : Array Value} {R R' : Ending → World → Prop} (hr : ∀ e w, R e w → R' e w) (ds : List Deferred) : ∀ (u : FrameMode) (w : World), LeavesInM Fence.wide n P fn tm R ds u w → LeavesInM Fence.wide n P fn tm R' ds u w := by
  induction ds with
  | nil =>
    intro u w h
    cases u with
    | run => exact h
    | returning => obtain ⟨v, h1, h2⟩ := h; exact ⟨v, h1, hr _ _ h2⟩
    | panicking ch => exact hr _ _ h
  | cons d ds ih =>
    rintro u w ⟨h0, h⟩
    refine ⟨h0, ?_⟩
    rcases h with ⟨r, w', h1, h2, h3⟩ | ⟨h1, fv, cap, f, args, h2, h3, h4, h5⟩
    · exact .inl ⟨r, w', h1, h2, ih _ _ h3⟩
    · refine .inr ⟨h1, fv, cap, f, args, h2, h3, h4, CallsDIn.mono h5 (fun e u' w' he => ?_)⟩
      cases e with
      | returned v => exact ih _ _ he
      | panicked ch => exact ih _ _ he
      | outgrown => exact hr _ _ he

theorem vleave_does {call : CallF} (hcall : CallOK P call) (hmix : P.follows .mixedOrders = true) {m : Nat} {fn : Func} {t : List Value} : ∀ (D : List VDef) (u : FrameMode) (H : Hp) (c : Ctl) (r : Res) (H' : Hp) (c' : Ctl), vleave P call m fn t D u H c = some (r, H', c') →
    (AllP c'.obl → AllP c.obl) ∧ (∀ i, domB H i = true → domB H' i = true) ∧
    (AllP c'.obl → ∀ (n : Nat) (A : Nat → Prop) (w0 : World) (β : Nat → Nat) (w : World), Rel A w0 β H w → wfDs (domB H) D = true → wfL (domB H) t = true →
      LeavesInM Fence.wide n P fn (renL β t).toArray (fun e w' => ∃ β', (∀ i, domB H i = true → β' i = β i) ∧ e = r.out β' ∧ Rel A w0 β' H' w') (D.map (renD β)) u w) := by
  intro D
  induction D with
  | nil =>
    intro u H c r H' c' h
    cases u with
    | run => cases h
    | returning =>
      simp only [vleave] at h
      split at h
      · rename_i v hres
        simp only [Option.some.injEq, Prod.mk.injEq] at h
        obtain ⟨rfl, rfl, rfl⟩ := h
        exact ⟨id, fun _ h => h, fun _ n A w0 β w hR _ ht => ⟨ren β v, vresults_run hR hres, β, fun _ _ => rfl, rfl, hR⟩⟩
      · cases h
    | panicking ch =>
      simp only [vleave, Option.some.injEq, Prod.mk.injEq] at h
      obtain ⟨rfl, rfl, rfl⟩ := h
      exact ⟨id, fun _ h => h, fun _ n A w0 β w hR _ ht => ⟨β, fun _ _ => rfl, rfl, hR⟩⟩
  | cons d ds ih =>
    intro u H c r H' c' h
    have hnr : u ≠ .run := by rintro rfl; cases d <;> cases h
    cases d with
    | mark b =>
      have h2 : (match look H b with
          | some (.deferred (some [])) => vleave P call m fn t ds u (hput H b (.deferred none)) c
          | _ => none) = some (r, H', c') := by
        cases u with
        | run => exact absurd rfl hnr
        | returning => exact h
        | panicking ch => exact h
      clear h
      split at h2
      · rename_i hl
        obtain ⟨m1, d1, r1⟩ := ih _ _ _ _ _ _ h2
        have hdom : ∀ i, domB H i = true → domB (hput H b (.deferred none)) i = true := fun i hi => by rw [domB_hput, hi, Bool.or_true]
        refine ⟨m1, fun i hi => d1 i (hdom i hi), fun z n A w0 β w hR hwd hwt => ?_⟩
        have hlies : w.heap[β b]? = some (.deferred (some [])) := hR.lies b _ hl
        have hR2 := hR.obj (b := b) (domB_of hl) (o := .deferred none) (x := .deferred none) rfl rfl
        unfold wfDs at hwd
        rw [List.all_cons, Bool.and_eq_true] at hwd
        have := r1 z n A w0 β _ hR2 (wfDs_mono hdom hwd.2) (wfL_mono hdom _ hwt)
        refine ⟨hnr, .inl ⟨β b, _, rfl, run_takeDeferred hlies, ?_⟩⟩
        refine leavesInM_mono ?_ _ _ _ this
        rintro e w' ⟨β', hb, he, hR'⟩
        exact ⟨β', fun i hi => hb i (hdom i hi), he, hR'⟩
      · cases h2
    | fn f cap args =>
      have h2 : (if hasBody P f then
          match vdcall P call m f (args ++ cap) u H c with
          | some (u', H', c') => vleave P call m fn t ds (settle u') H' c'
          | none => none
        else none) = some (r, H', c') := by
        cases u with
        | run => exact absurd rfl hnr
        | returning => exact h
        | panicking ch => exact h
      clear h
      split at h2
      case isFalse => cases h2
      rename_i hbody
      split at h2
      case h_2 => cases h2
      rename_i u1 H1 c1 hd
      obtain ⟨a1, a2, a3⟩ := vdcall_does hcall hmix hd
      obtain ⟨m1, d1, r1⟩ := ih _ _ _ _ _ _ h2
      refine ⟨fun z => a1 (m1 z), fun i hi => d1 i (a2 i hi), fun z n A w0 β w hR hwd hwt => ?_⟩
      unfold wfDs at hwd
      rw [List.all_cons, Bool.and_eq_true] at hwd
      have hwa := hwd.1
      simp only [wfD, Bool.and_eq_true] at hwa
      have happ : wfA (domB H) (args ++ cap) = true := by
        rw [wfA_list, wfL_all] at *
        intro v hv
        rw [Array.toList_append, List.mem_append] at hv
        exact hv.elim (((wfL_all _ _).1 (by rw [← wfA_list]; exact hwa.2)) v) (hwa.1 v)
      refine ⟨hnr, .inr ⟨(fun h0 => (by cases h0)), .func f, renA β cap, f, renA β (args ++ cap), rfl, ?_, fun _ _ => trivial, ?_⟩⟩
      · show (callFunc f (renA β args ++ renA β cap)).run P w = _
        rw [callFunc_run hbody, renA_map, renA_map, renA_map, Array.map_append]
      · refine CallsDIn.mono (a3 (m1 z) (n - 1) A w0 β w hR happ) ?_
        rintro e u2 w' ⟨⟨v, rfl⟩, rfl, β', hb, hR'⟩
        have := r1 z n A w0 β' w' hR' (wfDs_mono a2 hwd.2) (wfL_mono a2 _ hwt)
        rw [renL_congr hb t hwt, renDs_congr hb hwd.2] at this
        refine leavesInM_mono ?_ _ _ _ this
        rintro e w'' ⟨β'', hb', he, hR''⟩
        exact ⟨β'', fun i hi => (hb' i (a2 i hi)).trans (hb i hi), he, hR''⟩
end

end Go.Proofs.Ytpbhoamojocbpaa
