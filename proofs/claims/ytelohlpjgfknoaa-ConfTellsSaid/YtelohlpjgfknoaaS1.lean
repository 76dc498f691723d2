/- ConfTells: for any two configurations and any list of numbers, the program tells which configurations may be, why not, rows, configurations of rows, totals, pairs, what is the same and copies just as the document does; the arguments read as they did. Conditions: none but the statement's own (the machine and the model's bounds as Rows.ConfTellsSaid states them). -/
import Derived.Test.YtelohlpjgfknoaaZz30
import Derived.Test.YtelohlpjgfknoaaZz18
namespace Go.Proofs.Ytelohlpjgfknoaa
open Go.ChangeShapes Go.WideShapes Go.ChangeAt Go.RowKit

theorem confTells_calls {l0 l1 l2 : Value} {W : World} {g b t' q m g2 b2 t2 q2 m2 : Int} (h0 : IntsAt W l0) (h1 : IntsAt W l1) (h2 : IntsAt W l2) :
    Calls Try.prog 3 #[cv l0 g b t' q m, cv l1 g2 b2 t2 q2 m2, l2] W fun r W' => r = .returned (.bool true) ∧ Below W.heap.size W W' := by
  obtain ⟨L0, e0⟩ := h0.lie
  obtain ⟨L1, e1⟩ := h1.lie
  obtain ⟨L2, e2⟩ := h2.lie
  exact law3 g b t' q m g2 b2 t2 q2 m2 e0 e1 e2

set_option maxRecDepth 100000 in
theorem confTells_lifted (os : Os) (started : os.Started) (H : Type) (enc : TypeId × Value → H) :
    ReturnsInHanded {} Try.checked os 3 .any (Rows.confTellsSpec.pre6 enc Try.prog Try.f3 Rows.confTellsRow.domain false) (Rows.confTellsSpec.post enc Try.prog Try.f3 false true false false) := by
  refine returnsInHanded_of_change (C := Try.checked) Try.own started (by kernel_rfl) Try.func3
    (ChangeSpec.witness6 (enc := enc) (C := Try.checked) false ⟨#[], #[cv (.slice none 0 0) 0 0 0 0 0, cv (.slice none 0 0) 0 0 0 0 0, .slice none 0 0], []⟩ 8 (by kernel_rfl) (by kernel_rfl) (by kernel_rfl) (by kernel_rfl)) ?_
  intro W base args ds gs before hval0 hW _ _
  have hval : ∀ (j : Nat) t v, Try.f3.params[j]? = some t → args[j]? = some v → Value.okWide Try.prog W .any base t v := hval0
  have hW' := hW
  obtain ⟨p, q, hA0, hV, hpq, hfz, hnd⟩ := hW
  have hA : DataW.TrodAll enc Try.prog W 0 (fun _ => true) true Try.f3.params.toList args.toList ds p := hA0
  rw [Try.params3] at hA hval
  obtain ⟨v0, a0, d0, b0, p0, q0, hargs0, hds0, hps0, h0, r0⟩ := trodAll_cons hA
  obtain ⟨v1, a1, d1, b1, p1, q1, hargs1, hds1, hps1, h1, r1⟩ := trodAll_cons r0
  obtain ⟨v2, a2, d2, b2, p2, q2, hargs2, hds2, hps2, h2, r2⟩ := trodAll_cons r1
  obtain ⟨ha, hd, hp⟩ := trodAll_nil r2
  subst ha
  subst hd
  subst hp
  subst hargs2
  subst hds2
  subst hps2
  subst hargs1
  subst hds1
  subst hps1
  have hargs : args = #[v0, v1, v2] := by cases args; simp_all
  subst hargs
  subst hds0
  obtain ⟨rfl, rfl⟩ := trodVars_none hV
  obtain ⟨l0, g0, b0, t0, q0, m0, rfl, e0⟩ := open_conf (hval 0 24 v0 rfl rfl) h0
  obtain ⟨l1, g1, b1, t1, q1, m1, rfl, e1⟩ := open_conf (hval 1 24 v1 rfl rfl) h1
  have e2 := open_ints (hval 2 22 v2 rfl rfl) h2
  clear hA0 hval0
  simp only [List.append_nil] at hpq hW'
  refine (confTells_calls e0 e1 e2).mono fun e W' ⟨he, hB⟩ => ?_
  subst he
  exact ⟨_, rfl, post_of_below (pa := p) (pv := []) hW' (fun _ _ _ => trodAll_mk1 (shut_bool Try.underlying4 _))
    (fun sp hs => args_again (by decide +kernel) hA hB (fun q hq => hW'.lt q (by rw [hpq]; exact hq)) (fun q hq => hs q (by rw [hpq]; exact hq))) (fun _ _ => rfl) (by rw [List.append_nil]; exact hpq)
    hB (ok_one (by kernel_rfl) rfl (okWide_bool_mk Try.underlying4 _))⟩

theorem confTells_holds : Rows.ConfTellsSaid :=
  OpenClaim.holds_of_wide 3 Try.f3 rfl rfl rfl rfl rfl rfl rfl ⟨rfl, rfl, rfl, rfl, rfl⟩ rfl rfl rfl rfl rfl (by kernel_rfl) Try.func3 (by kernel_rfl)
    (of_decide_eq_true (by kernel_rfl)) (by unfold Func.isWrapper; first | (rw [if_pos (by decide +kernel)]; kernel_rfl) | (rw [if_neg (by decide +kernel)]; exact ⟨rfl, rfl⟩))
    (fun os started H enc _ => confTells_lifted os started H enc)

end Go.Proofs.Ytelohlpjgfknoaa
