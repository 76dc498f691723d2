/- A walk by computation: calls that are handed blocks, whose answers are foretold. -/
import Derived.Test.YtpbhoamojocbpaaE12
namespace Go.Proofs.Ytpbhoamojocbpaa
open Go Go.RowKit
set_option linter.unusedSimpArgs false
set_option linter.unusedVariables false

/-- The next call's answer as it is foretold, with the blocks behind it. -/
def smB (P : Program) : CallF := fun fn args H c =>
  match smA P fn args H c with
  | some r => some r
  | none =>
    match fn, c.bls with
    | .func f, (g, r, H') :: rest => if Nat.beq f g then some (r, H', { c with bls := rest, obl := CallsV P (.func f) args H r H' :: c.obl }) else none
    | _, _ => none
theorem smB_ok (P : Program) : CallOK P (smB P) := by
  intro fn args H c r H' c' h
  unfold smB at h
  split at h
  · rename_i r' hr
    cases h
    exact smA_ok P _ _ _ _ _ _ _ hr
  · split at h
    case h_2 => cases h
    rename_i f g r0 G rest hfn
    split at h
    case isFalse => cases h
    simp only [Option.some.injEq, Prod.mk.injEq] at h
    obtain ⟨rfl, rfl, rfl⟩ := h
    exact ⟨fun z => z.2, fun z _ _ => z.1⟩

def ctl2 (n : Nat) (orc : List (Option Bool)) (ans : List (Nat × Res)) (bls : List (Nat × Res × Hp)) : Ctl := { n := n, orc := orc, obl := [], log := [], ans := ans, bls := bls }
/-- A function that is handed blocks: what it hands back, how they then lie, what is owed. -/
def runB (P : Program) (f : Nat) (args : Array Value) (H : Hp) (orc : List (Option Bool)) (ans : List (Nat × Res)) (bls : List (Nat × Res × Hp)) : Option (Res × Hp × List Prop) :=
  (vfun P (smB P) 300 20 (.func f) args H (ctl2 1000 orc ans bls)).map fun x => (x.1, x.2.1.filter (fun e => domB H e.1), x.2.2.obl.reverse)

theorem runB_calls {P : Program} (hmix : P.follows .mixedOrders = true) {f : Nat} {args : Array Value} {H : Hp} {orc : List (Option Bool)} {ans : List (Nat × Res)} {bls : List (Nat × Res × Hp)} {r : Res} {H' : Hp} {obl : List Prop}
    (h : runB P f args H orc ans bls = some (r, H', obl)) (ho : AllP obl) (ha : wfA (domB H) args = true) (hc : closedH H' = true) (hr : resOK noB r = true) : CallsV P (.func f) args H r H' := by
  unfold runB at h
  rw [Option.map_eq_some_iff] at h
  obtain ⟨⟨r', H1, c'⟩, h1, h2⟩ := h
  simp only [Prod.mk.injEq] at h2
  obtain ⟨rfl, rfl, rfl⟩ := h2
  have key := (vfun_ok (smB_ok P) hmix 300 20 _ _ _ _ _ _ _ h1).2 ((allP_reverse _).1 ho) rfl ha
  intro β w hR
  refine (key β w hR).mono ?_
  rintro e w' ⟨β', hb, rfl, hR'⟩
  refine ⟨β', hb, rfl, hR'.part (fun i o hi => ?_) hc⟩
  rw [look_filter (fun k => domB H k)] at hi
  split at hi
  · exact hi
  · cases hi

/-- Blocks told otherwise. -/
theorem CallsV.to {P : Program} {f : Nat} {args : Array Value} {H H' G : Hp} {r s : Res} (h : CallsV P (.func f) args H r H') (hr : r = s) (hH : H' = G) : CallsV P (.func f) args H s G := by
  subst hr; subst hH; exact h

theorem runB_pure {P : Program} (hmix : P.follows .mixedOrders = true) {f : Nat} {args : Array Value} {orc : List (Option Bool)} {ans : List (Nat × Res)} {bls : List (Nat × Res × Hp)} {r : Res} {obl : List Prop}
    (h : runB P f args [] orc ans bls = some (r, [], obl)) (ho : AllP obl) (ha : wfA noB args = true) (hr : resOK noB r = true) : PureX P f args r := by
  intro w
  have := runB_calls hmix h ho ha rfl hr (fun i => i) w (Rel.nil _ _ _)
  have ha2 : renA (fun i => i) args = args := renA_plain _ ha
  simp only [ha2] at this
  refine this.mono ?_
  rintro e w' ⟨β', _, rfl, hR⟩
  refine ⟨?_, hR.kp.below (Nat.le_refl _) ?_⟩
  · cases r with
    | ret v =>
      simp only [Res.out]
      rw [ren_plain β' hr, ren_plain _ hr]
    | pan ch => rfl
  · rintro k ⟨i, hi, _⟩
    cases hi

end Go.Proofs.Ytpbhoamojocbpaa
