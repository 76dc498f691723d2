/- A walk by computation: operations that only reckon. -/
import Derived.Test.YtpbhoamojocbpaaE1
namespace Go.Proofs.Ytpbhoamojocbpaa
open Go Go.RowKit
set_option linter.unusedSimpArgs false
set_option linter.unusedVariables false

def renN (β : Nat → Nat) : Next → Next
  | .value v => .value (ren β v)
  | .enter f args => .enter f (renA β args)
  | n => n

theorem calm_underlying (P : Program) (t : TypeId) : calm P (underlying t) = P.underlying t := by
  unfold underlying
  rw [calm_bind]
  simp only [program, calm, Option.bind_some]
  cases P.underlying t <;> rfl
theorem calm_sizeOf (P : Program) (t : TypeId) : calm P (sizeOf t) = (P.info? t).map (·.size) := by
  unfold sizeOf typeInfo
  rw [calm_bind, calm_bind]
  simp only [program, calm, Option.bind_some]
  cases P.info? t <;> rfl

def safeOp : Op → Bool
  | .move _ => true
  | .assign _ => true
  | .pick _ _ _ => true
  | .fieldAddr _ _ _ => true
  | .indexAddr _ _ _ => true
  | .slice _ _ _ _ _ => true
  | .makeFunc (.func _) _ _ => true
  | .extract _ _ => true
  | .makeInterface _ _ => true
  | _ => false
/-- The function that a value is, with what it has captured. -/
def asFunc : Value → Option (FuncId × Array Value × Array Value)
  | .func (.func f) first captured => some (f, first, captured)
  | _ => none

section
variable {P : Program} {ρ : Operand → Value} {β : Nat → Nat}

theorem ren_bool {v : Value} {b : Bool} : ren β v = .bool b ↔ v = .bool b := by
  cases v with
  | pointer a => cases a <;> simp [ren]
  | slice a l c => cases a <;> simp [ren]
  | map r => cases r <;> simp [ren]
  | chan r => cases r <;> simp [ren]
  | _ => simp [ren]

theorem calm_asBool (v : Value) : calm P (asBool (ren β v)) = calm P (asBool v) := by
  cases v with
  | pointer a => cases a <;> rfl
  | slice a l c => cases a <;> rfl
  | map r => cases r <;> rfl
  | chan r => cases r <;> rfl
  | _ => rfl
theorem calm_asIntOf (v : Value) : calm P (asIntOf (ren β v)) = calm P (asIntOf v) := by
  cases v with
  | pointer a => cases a <;> rfl
  | slice a l c => cases a <;> rfl
  | map r => cases r <;> rfl
  | chan r => cases r <;> rfl
  | _ => rfl
theorem calm_sureAddr (v : Value) : calm P (Instr.sureAddr (ren β v)) = (calm P (Instr.sureAddr v)).map (renP β) := by
  cases v with
  | pointer a => cases a <;> rfl
  | slice a l c => cases a <;> rfl
  | map r => cases r <;> rfl
  | chan r => cases r <;> rfl
  | _ => rfl
theorem calm_asAddr (v : Value) : calm P (asAddr (ren β v)) = (calm P (asAddr v)).map (renP β) := by
  cases v with
  | pointer a => cases a <;> rfl
  | slice a l c => cases a <;> rfl
  | map r => cases r <;> rfl
  | chan r => cases r <;> rfl
  | _ => rfl
theorem renP_add (a : Addr) (n : Nat) : renP β (a.add n) = (renP β a).add n := by
  unfold Addr.add renP
  split <;> rfl
theorem calm_boundsPanic {α : Type} (k : IntKind) (x y : Int) (c : BoundsCode) : calm P (boundsPanic k x y c : Sem α) = none := by
  unfold boundsPanic
  dsimp only
  split <;> rfl
theorem calm_runtimePanic_nil {α : Type} : calm P (runtimePanic .nilDeref : Sem α) = none := rfl
theorem calm_sliceBound (v : Value) (y : Nat) (c : BoundsCode) : calm P (Instr.sliceBound (ren β v) y c) = calm P (Instr.sliceBound v y c) := by
  unfold Instr.sliceBound
  rw [calm_bind, calm_bind, calm_asIntOf]
theorem calm_sliceBounds (s : Bool) (l c : Nat) (lo hi mx : Option Value) : calm P (Instr.sliceBounds s l c (lo.map (ren β)) (hi.map (ren β)) (mx.map (ren β))) = calm P (Instr.sliceBounds s l c lo hi mx) := by
  unfold Instr.sliceBounds
  cases lo <;> cases hi <;> cases mx <;> simp only [Option.map_none, Option.map_some, calm_bind, calm_sliceBound, Option.isSome_none, Option.isSome_some]

theorem calm_fieldPlace (a : Addr) (f : Field) : calm P (fieldPlace (renP β a) f) = (calm P (fieldPlace a f)).map (renP β) := by
  unfold fieldPlace
  rw [calm_bind, calm_bind, calm_sizeOf]
  cases P.info? f.type with
  | none => rfl
  | some i =>
    simp only [Option.map_some, Option.bind_some]
    split
    · unfold partAt
      simp only [calm_bind]
      have e : ∀ x : Addr, x.spot = none → calm P (byteOf x) = none := by
        intro x hx
        unfold byteOf
        simp only [hx]
        rfl
      cases hs : a.spot with
      | none =>
        rw [e _ hs, e (renP β a) hs]
        rfl
      | some s =>
        have h1 : calm P (byteOf a) = some s := by unfold byteOf; simp only [hs]; rfl
        have h2 : calm P (byteOf (renP β a)) = some s := by unfold byteOf; simp only [renP, hs]; rfl
        rw [h1, h2]
        simp only [Option.bind_some, calm_pure]
        rw [e _ rfl, e _ rfl]
        rfl
    · simp only [calm_pure, Option.map_some, renP_add]

theorem fst_eq {α : Type} {a b : Option α} (h : a = b) (f : α → Option Value) : a.bind f = b.bind f := by rw [h]

theorem calm_indexAt (t : TypeId) (x i : Value) : calm P (Instr.indexAt t (ren β x) (ren β i)) = (calm P (Instr.indexAt t x i)).map (ren β) := by
  unfold Instr.indexAt
  simp only [calm_bind, calm_asIntOf, calm_underlying]
  cases hI : calm P (asIntOf i) with
  | none => rfl
  | some ki =>
    obtain ⟨k, i⟩ := ki
    simp only [Option.bind_some]
    cases hu : P.underlying t with
    | none => rfl
    | some d =>
      simp only [Option.bind_some]
      cases d with
      | array len elem =>
        simp only [calm_bind, calm_sureAddr]
        cases calm P (Instr.sureAddr x) with
        | none => rfl
        | some a =>
          simp only [Option.map_some, Option.bind_some, calm_pure, calm_bind, calm_underlying, hu]
          by_cases h : 0 ≤ i ∧ i < (len : Int)
          · simp only [if_pos h, calm_bind, calm_sizeOf]
            cases P.info? elem with
            | none => rfl
            | some i => simp only [Option.map_some, Option.bind_some, calm_pure, ren, renP_add]
          · simp only [if_neg h]
            split
            · rfl
            · simp only [calm_boundsPanic, Option.map_none]
      | slice elem =>
        cases x with
        | slice a l c =>
          cases a with
          | none =>
            simp only [ren, calm_pure, Option.bind_some, calm_bind, calm_underlying, hu, calm_boundsPanic, Option.map_none]
          | some a =>
            simp only [ren, calm_pure, Option.bind_some, calm_bind, calm_underlying, hu]
            by_cases h : 0 ≤ i ∧ i < (l : Int)
            · simp only [if_pos h, calm_bind, calm_sizeOf]
              cases P.info? elem with
              | none => rfl
              | some i => simp only [Option.map_some, Option.bind_some, calm_pure, ren, renP_add]
            · simp only [if_neg h, Bool.and_false, Bool.false_eq_true, if_false, calm_boundsPanic, Option.map_none]
        | pointer a => cases a <;> rfl
        | map r => cases r <;> rfl
        | chan r => cases r <;> rfl
        | _ => rfl
      | _ => rfl

theorem ren_slice_addr (m l : Nat) (a : Addr) (s x y : Nat) : ren β (.slice (some (if m = l then a else a.add s)) x y) = .slice (some (if m = l then renP β a else (renP β a).add s)) x y := by
  split <;> simp only [ren, renP_add]

theorem calm_sliceAt (t : TypeId) (x : Value) (lo hi mx : Option Value) : calm P (Instr.sliceAt t (ren β x) (lo.map (ren β)) (hi.map (ren β)) (mx.map (ren β))) = (calm P (Instr.sliceAt t x lo hi mx)).map (ren β) := by
  unfold Instr.sliceAt
  simp only [calm_bind, calm_underlying]
  cases hu : P.underlying t with
  | none => rfl
  | some d =>
    simp only [Option.bind_some]
    have gen : (∀ n e, d ≠ .array n e) → calm P (Instr.slice t (ren β x) (lo.map (ren β)) (hi.map (ren β)) (mx.map (ren β))) = (calm P (Instr.slice t x lo hi mx)).map (ren β) := by
      intro hd
      unfold Instr.slice
      simp only [calm_bind, calm_underlying, hu, Option.bind_some]
      cases d with
      | string =>
        cases x with
        | string s =>
          simp only [ren, Option.isSome_map]
          split
          · rfl
          · have e := calm_sliceBounds (P := P) (β := β) false s.size s.size lo hi none
            rw [Option.map_none] at e
            simp only [calm_bind, e]
            cases calm P (Instr.sliceBounds false s.size s.size lo hi none) with
            | none => rfl
            | some r => rfl
        | pointer a => cases a <;> rfl
        | slice a l c => cases a <;> rfl
        | map r => cases r <;> rfl
        | chan r => cases r <;> rfl
        | _ => rfl
      | slice elem =>
        cases x with
        | slice a l c =>
          cases a with
          | none =>
            simp only [ren, calm_bind, calm_sliceBounds]
            cases calm P (Instr.sliceBounds true l c lo hi mx) with
            | none => rfl
            | some r =>
              simp only [Option.bind_some, calm_sizeOf]
              cases P.info? elem with
              | none => rfl
              | some i => simp only [Option.map_some, Option.bind_some, calm_pure, Option.map_none, ite_self, ren]
          | some a =>
            simp only [ren, calm_bind, calm_sliceBounds]
            cases calm P (Instr.sliceBounds true l c lo hi mx) with
            | none => rfl
            | some r =>
              simp only [Option.bind_some, calm_sizeOf]
              cases P.info? elem with
              | none => rfl
              | some i =>
                simp only [Option.map_some, Option.bind_some, calm_pure, Option.map_none]
                split <;> simp only [ren, renP_add]
        | pointer a => cases a <;> rfl
        | map r => cases r <;> rfl
        | chan r => cases r <;> rfl
        | _ => rfl
      | pointer arr =>
        simp only [calm_bind, calm_asAddr]
        cases calm P (asAddr x) with
        | none => rfl
        | some a =>
          simp only [Option.map_some, Option.bind_some, calm_underlying]
          cases P.underlying arr with
          | none => rfl
          | some d2 =>
            cases d2 with
            | array n elem =>
              simp only [Option.bind_some, calm_bind, calm_sliceBounds]
              cases calm P (Instr.sliceBounds false n n lo hi mx) with
              | none => rfl
              | some r =>
                simp only [Option.bind_some, calm_sizeOf]
                cases P.info? elem with
                | none => rfl
                | some i => simp only [Option.map_some, Option.bind_some, calm_pure, ren_slice_addr]
            | _ => rfl
      | array n e => exact absurd rfl (hd n e)
      | _ => rfl
    cases d with
    | array n elem =>
      simp only [calm_bind, calm_sureAddr]
      cases calm P (Instr.sureAddr x) with
      | none => rfl
      | some a =>
        simp only [Option.map_some, Option.bind_some, calm_sliceBounds]
        cases calm P (Instr.sliceBounds false n n lo hi mx) with
        | none => rfl
        | some r =>
          simp only [Option.bind_some, calm_sizeOf]
          cases P.info? elem with
          | none => rfl
          | some i => simp only [Option.map_some, Option.bind_some, calm_pure, ren_slice_addr]
    | _ => exact gen (fun _ _ h => by cases h)


theorem renA_get (a : Array Value) (i : Nat) : (renA β a)[i]? = (a[i]?).map (ren β) := by
  rw [renA_map, Array.getElem?_map]
theorem calm_fieldAt (s : TypeId) (x : Value) (f : Nat) : calm P (Instr.fieldAt s (ren β x) f) = (calm P (Instr.fieldAt s x f)).map (ren β) := by
  unfold Instr.fieldAt
  simp only [calm_bind, calm_underlying]
  cases P.underlying s with
  | none => rfl
  | some d =>
    cases d with
    | struct fields =>
      simp only [Option.bind_some]
      cases fields[f]? with
      | none => rfl
      | some f =>
        simp only [calm_bind, calm_sureAddr]
        cases calm P (Instr.sureAddr x) with
        | none => rfl
        | some a =>
          simp only [Option.map_some, Option.bind_some, calm_fieldPlace]
          cases calm P (fieldPlace a f) with
          | none => rfl
          | some a => rfl
    | _ => rfl
theorem calm_extract (x : Value) (i : Nat) : calm P (Instr.extract (ren β x) i) = (calm P (Instr.extract x i)).map (ren β) := by
  cases x with
  | tuple vs =>
    simp only [ren, Instr.extract, renA_get]
    cases vs[i]? <;> rfl
  | pointer a => cases a <;> rfl
  | slice a l c => cases a <;> rfl
  | map r => cases r <;> rfl
  | chan r => cases r <;> rfl
  | _ => rfl
theorem calm_makeInterface (t : TypeId) (x : Value) : calm P (Instr.makeInterface t (ren β x)) = (calm P (Instr.makeInterface t x)).map (ren β) := by
  unfold Instr.makeInterface
  simp only [calm_bind, calm_underlying]
  cases P.underlying t with
  | none => rfl
  | some d => cases d <;> rfl
theorem calm_value (s : Sem Value) : calm P (do pure (Next.value (← s))) = (calm P s).map Next.value := by
  rw [calm_bind]
  cases calm P s <;> rfl

/-- A safe operation on values whose blocks have other numbers gives what it gives, its blocks so numbered. -/
theorem eqv_safe {o : Oper} (hs : safeOp o.op = true) {n : Next} (hn : calm P (execOp ρ o) = some n) (hc : ∀ f args, n = .enter f args → True) :
    calm P (execOp (fun x => ren β (ρ x)) o) = some (renN β n) := by
  obtain ⟨dst, op, type, pos, after, guard⟩ := o
  cases op with
  | move x => simp only [execOp, calm_pure, Option.some.injEq] at hn ⊢; subst hn; rfl
  | assign x => simp only [execOp, calm_pure, Option.some.injEq] at hn ⊢; subst hn; rfl
  | pick c a b =>
    simp only [execOp, calm_bind, calm_asBool] at hn ⊢
    cases h : calm P (asBool (ρ c)) with
    | none => rw [h] at hn; cases hn
    | some t => rw [h] at hn; cases t <;> (simp only [Option.bind_some, calm_pure, Option.some.injEq] at hn; subst hn; rfl)
  | fieldAddr s x f =>
    simp only [execOp, calm_value, calm_fieldAt] at hn ⊢
    cases h : calm P (Instr.fieldAt s (ρ x) f) with
    | none => rw [h] at hn; cases hn
    | some v => rw [h] at hn; simp only [Option.map_some, Option.some.injEq] at hn; subst hn; rfl
  | indexAddr s x f =>
    simp only [execOp, calm_value, calm_indexAt] at hn ⊢
    cases h : calm P (Instr.indexAt s (ρ x) (ρ f)) with
    | none => rw [h] at hn; cases hn
    | some v => rw [h] at hn; simp only [Option.map_some, Option.some.injEq] at hn; subst hn; rfl
  | slice s x lo hi mx =>
    simp only [execOp, calm_value] at hn ⊢
    have e := calm_sliceAt (P := P) (β := β) s (ρ x) (lo.map ρ) (hi.map ρ) (mx.map ρ)
    simp only [Option.map_map] at e
    rw [show (fun x => ren β (ρ x)) = ren β ∘ ρ from rfl, e]
    cases h : calm P (Instr.sliceAt s (ρ x) (lo.map ρ) (hi.map ρ) (mx.map ρ)) with
    | none => rw [h] at hn; cases hn
    | some v => rw [h] at hn; simp only [Option.map_some, Option.some.injEq] at hn; subst hn; rfl
  | extract x i =>
    simp only [execOp, calm_value, calm_extract] at hn ⊢
    cases h : calm P (Instr.extract (ρ x) i) with
    | none => rw [h] at hn; cases hn
    | some v => rw [h] at hn; simp only [Option.map_some, Option.some.injEq] at hn; subst hn; rfl
  | makeInterface t x =>
    simp only [execOp, calm_value, calm_makeInterface] at hn ⊢
    cases h : calm P (Instr.makeInterface t (ρ x)) with
    | none => rw [h] at hn; cases hn
    | some v => rw [h] at hn; simp only [Option.map_some, Option.some.injEq] at hn; subst hn; rfl
  | makeFunc fn first captured =>
    cases fn with
    | func f =>
      simp only [execOp, calm_value, Instr.makeFunc, calm_pure, Option.map_some, Option.some.injEq] at hn ⊢
      subst hn
      simp only [renN, ren, renF, renA_map, Array.map_map]
      rfl
    | _ => cases hs
  | _ => cases hs
/-- What a call of a function's value enters. -/
def callArgs (ρ : Operand → Value) (c : Call) : Option (FuncId × Array Value) :=
  match c.callee with
  | .value f => (asFunc (ρ f)).map fun (g, first, captured) => (g, first ++ c.args.map ρ ++ captured)
  | _ => none
def hasBody (P : Program) (f : FuncId) : Bool :=
  match P.funcs[f]? with
  | some fn => !(fn.name == "runtime.NumGoroutine") && !fn.body.isNone
  | none => false
theorem asFunc_ren {v : Value} {f : FuncId} {first captured : Array Value} (h : asFunc v = some (f, first, captured)) : v = .func (.func f) first captured := by
  cases v with
  | func fn a b =>
    cases fn with
    | func g => simp only [asFunc, Option.some.injEq, Prod.mk.injEq] at h; obtain ⟨rfl, rfl, rfl⟩ := h; rfl
    | _ => cases h
  | _ => cases h
theorem call_run {o : Oper} {c : Call} (ho : o.op = .call c) {f : FuncId} {args : Array Value} (h : callArgs ρ c = some (f, args)) (hb : hasBody P f = true) (w : World) :
    (execOp (fun x => ren β (ρ x)) o).run P w = .ok (.enter f (renA β args)) w := by
  obtain ⟨dst, op, type, pos, after, guard⟩ := o
  simp only at ho
  subst ho
  unfold callArgs at h
  cases hcal : c.callee with
  | value g =>
    rw [hcal] at h
    simp only [Option.map_eq_some_iff] at h
    obtain ⟨⟨f', first, captured⟩, h1, h2⟩ := h
    simp only [Prod.mk.injEq] at h2
    obtain ⟨rfl, rfl⟩ := h2
    have hv := asFunc_ren h1
    unfold hasBody at hb
    cases hf : P.funcs[f']? with
    | none => rw [hf] at hb; cases hb
    | some fn =>
      rw [hf] at hb
      simp only [Bool.and_eq_true, Bool.not_eq_true'] at hb
      have e : calm P (execOp (fun x => ren β (ρ x)) { dst := dst, op := .call c, type := type, pos := pos, after := after, guard := guard }) = some (.enter f' (renA β (first ++ c.args.map ρ ++ captured))) := by
        simp only [execOp, calm_bind, resolve, hcal, hv, ren, renF, Deferred.ofValue, calm_pure, Option.bind_some, invoke, callFunc, program, calm, hf]
        simp only [hb.1, hb.2, Bool.false_eq_true, if_false]
        simp only [calm, renA_map, Array.map_append, Array.map_map]
        rfl
      exact calm_run e w
  | _ => rw [hcal] at h; cases h
end

end Go.Proofs.Ytpbhoamojocbpaa
