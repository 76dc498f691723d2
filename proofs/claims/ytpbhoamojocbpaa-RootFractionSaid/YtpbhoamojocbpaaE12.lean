/- A walk by computation: calls whose answers are foretold. -/
import Derived.Test.YtpbhoamojocbpaaE11
namespace Go.Proofs.Ytpbhoamojocbpaa
open Go Go.RowKit
set_option linter.unusedSimpArgs false
set_option linter.unusedVariables false

/-- A call of plain values, wherever. -/
def PureX (P : Program) (f : FuncId) (args : Array Value) (r : Res) : Prop := ∀ w, Calls P f args w fun e w' => e = r.out (fun i => i) ∧ Below w.heap.size w w'

theorem Rel.below {A : Nat → Prop} {w0 : World} {β : Nat → Nat} {H : Hp} {w w' : World} (h : Rel A w0 β H w) (hb : Below w.heap.size w w') : Rel A w0 β H w' :=
  ⟨fun i o ho => by rw [hb.block _ (h.lt (domB_of ho))]; exact h.lies i o ho, h.inj, h.own, h.wf, h.kp.trans (Kp.of_below hb)⟩

/-- The next call's answer as it is foretold; that is then owed. -/
def smA (P : Program) : CallF := fun fn args H c =>
  match fn, c.ans with
  | .func f, (g, r) :: rest => if Nat.beq f g && (wfA noB args && resOK noB r) then some (r, H, { c with ans := rest, obl := PureX P f args r :: c.obl }) else none
  | _, _ => none
theorem smA_ok (P : Program) : CallOK P (smA P) := by
  intro fn args H c r H' c' h
  unfold smA at h
  split at h
  case h_2 => cases h
  rename_i f g r0 rest hfn
  split at h
  case isFalse => cases h
  rename_i hc
  simp only [Option.some.injEq, Prod.mk.injEq] at h
  obtain ⟨rfl, rfl, rfl⟩ := h
  simp only [Bool.and_eq_true] at hc
  refine ⟨fun z => z.2, fun z _ _ β w hR => ?_⟩
  have hp := z.1 w
  have ha : renA β args = args := renA_plain β hc.2.1
  show Calls P f (renA β args) w _
  rw [ha]
  refine hp.mono ?_
  rintro e w' ⟨rfl, hb⟩
  refine ⟨β, fun _ _ => rfl, ?_, hR.below hb⟩
  cases r0 with
  | ret v =>
    simp only [Res.out]
    rw [ren_plain _ hc.2.2, ren_plain _ hc.2.2]
  | pan ch => rfl

def ctl1 (orc : List (Option Bool)) (ans : List (Nat × Res)) : Ctl := { n := 0, orc := orc, obl := [], log := [], ans := ans }
def Owed : List Prop → Prop
  | [] => True
  | p :: l => p ∧ Owed l
theorem allP_append : ∀ (l m : List Prop), AllP (l ++ m) ↔ AllP l ∧ AllP m
  | [], m => by simp [AllP]
  | p :: l, m => by simp only [List.cons_append, AllP, allP_append l m, and_assoc]
theorem allP_reverse : ∀ (l : List Prop), AllP l.reverse ↔ AllP l
  | [] => Iff.rfl
  | p :: l => by rw [List.reverse_cons, allP_append, allP_reverse l]; simp only [AllP, and_true]; exact and_comm

def runA (P : Program) (f : Nat) (args : Array Value) (orc : List (Option Bool)) (ans : List (Nat × Res)) : Option (Res × List Prop) :=
  (vfun P (smA P) 300 20 (.func f) args [] (ctl1 orc ans)).map fun x => (x.1, x.2.2.obl.reverse)
theorem runA_pure {P : Program} (hmix : P.follows .mixedOrders = true) {f : Nat} {args : Array Value} {orc : List (Option Bool)} {ans : List (Nat × Res)} {r : Res} {obl : List Prop}
    (h : runA P f args orc ans = some (r, obl)) (ho : AllP obl) (ha : wfA noB args = true) (hr : resOK noB r = true) : PureX P f args r := by
  intro w
  unfold runA at h
  rw [Option.map_eq_some_iff] at h
  obtain ⟨⟨r', H', c'⟩, h1, h2⟩ := h
  simp only [Prod.mk.injEq] at h2
  obtain ⟨rfl, rfl⟩ := h2
  have hd : domB [] = noB := rfl
  have := (vfun_ok (smA_ok P) hmix 300 20 _ _ _ _ _ _ _ h1).2 ((allP_reverse _).1 ho) rfl (by rw [hd]; exact ha) (fun i => i) w (Rel.nil _ _ _)
  have ha2 : renA (fun i => i) args = args := renA_plain _ ha
  simp only [ha2] at this
  refine this.mono ?_
  rintro e w' ⟨β', _, rfl, hR⟩
  refine ⟨?_, hR.kp.below (Nat.le_refl _) ?_⟩
  · cases r' with
    | ret v =>
      simp only [Res.out]
      rw [ren_plain β' hr, ren_plain _ hr]
    | pan ch => rfl
  · rintro k ⟨i, hi, _⟩
    cases hi

end Go.Proofs.Ytpbhoamojocbpaa
