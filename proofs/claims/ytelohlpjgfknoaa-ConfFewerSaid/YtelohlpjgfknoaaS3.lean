/- ConfFewer: for any configuration and any two numbers, what may be may be with one mass fewer, but the last; its total and its pairs are less by what went; and with one mass that may not be it may not be, by that name; the arguments read as they did. Conditions: none but the statement's own (the machine and the model's bounds as Rows.ConfFewerSaid states them). -/
import Derived.Test.YtelohlpjgfknoaaZz28
import Derived.Test.YtelohlpjgfknoaaZz21
namespace Go.Proofs.Ytelohlpjgfknoaa
open Go.ChangeShapes Go.WideShapes Go.ChangeAt Go.RowKit

theorem confFewer_calls {l0 : Value} {W : World} {g b t' q m x y : Int} (h0 : IntsAt W l0) (_ : isI x) (_ : isI y) :
    Calls Try.prog 5 #[cv l0 g b t' q m, .int .i64 x, .int .i64 y] W fun r W' => r = .returned (.bool true) ∧ Below W.heap.size W W' := by
  obtain ⟨L0, e0⟩ := h0.lie
  exact law5 g b t' q m x y e0

set_option maxRecDepth 100000 in
theorem confFewer_lifted (os : Os) (started : os.Started) (H : Type) (enc : TypeId × Value → H) :
    ReturnsInHanded {} Try.checked os 5 .any (Rows.confFewerSpec.pre6 enc Try.prog Try.f5 Rows.confFewerRow.domain false) (Rows.confFewerSpec.post enc Try.prog Try.f5 false true false false) := by
  refine returnsInHanded_of_change (C := Try.checked) Try.own started (by kernel_rfl) Try.func5
    (ChangeSpec.witness6 (enc := enc) (C := Try.checked) false ⟨#[], #[cv (.slice none 0 0) 0 0 0 0 0, .int .i64 0, .int .i64 0], []⟩ 8 (by kernel_rfl) (by kernel_rfl) (by kernel_rfl) (by kernel_rfl)) ?_
  intro W base args ds gs before hval0 hW _ _
  have hval : ∀ (j : Nat) t v, Try.f5.params[j]? = some t → args[j]? = some v → Value.okWide Try.prog W .any base t v := hval0
  have hW' := hW
  obtain ⟨p, q, hA0, hV, hpq, hfz, hnd⟩ := hW
  have hA : DataW.TrodAll enc Try.prog W 0 (fun _ => true) true Try.f5.params.toList args.toList ds p := hA0
  rw [Try.params5] at hA hval
  obtain ⟨v0, a0, d0, b0, p0, q0, hargs0, hds0, hps0, h0, r0⟩ := trodAll_cons hA
  obtain ⟨v1, a1, d1, b1, p1, q1, hargs1, hds1, hps1, h1, r1⟩ := trodAll_cons r0
  obtain ⟨v2, a2, d2, b2, p2, q2, hargs2, hds2, hps2, h2, r2⟩ := trodAll_cons r1
  obtain ⟨ha, hd, hp⟩ := trodAll_nil r2
  subst ha
  subst hd
  subst hp
  subst hargs2
  subst hds2
  subst hps2
  subst hargs1
  subst hds1
  subst hps1
  have hargs : args = #[v0, v1, v2] := by cases args; simp_all
  subst hargs
  subst hds0
  obtain ⟨rfl, rfl⟩ := trodVars_none hV
  obtain ⟨l0, g0, b0, t0, q0, m0, rfl, e0⟩ := open_conf (hval 0 24 v0 rfl rfl) h0
  obtain ⟨x1, rfl, rfl, rfl, w1⟩ := open_int Try.underlying3 (hval 1 3 v1 rfl rfl) h1
  obtain ⟨x2, rfl, rfl, rfl, w2⟩ := open_int Try.underlying3 (hval 2 3 v2 rfl rfl) h2
  clear hA0 hval0
  simp only [List.append_nil] at hpq hW'
  refine (confFewer_calls e0 (wf_i64 w1) (wf_i64 w2)).mono fun e W' ⟨he, hB⟩ => ?_
  subst he
  exact ⟨_, rfl, post_of_below (pa := p) (pv := []) hW' (fun _ _ _ => trodAll_mk1 (shut_bool Try.underlying4 _))
    (fun sp hs => args_again (by decide +kernel) hA hB (fun q hq => hW'.lt q (by rw [hpq]; exact hq)) (fun q hq => hs q (by rw [hpq]; exact hq))) (fun _ _ => rfl) (by rw [List.append_nil]; exact hpq)
    hB (ok_one (by kernel_rfl) rfl (okWide_bool_mk Try.underlying4 _))⟩

theorem confFewer_holds : Rows.ConfFewerSaid :=
  OpenClaim.holds_of_wide 5 Try.f5 rfl rfl rfl rfl rfl rfl rfl ⟨rfl, rfl, rfl, rfl, rfl⟩ rfl rfl rfl rfl rfl (by kernel_rfl) Try.func5 (by kernel_rfl)
    (of_decide_eq_true (by kernel_rfl)) (by unfold Func.isWrapper; first | (rw [if_pos (by decide +kernel)]; kernel_rfl) | (rw [if_neg (by decide +kernel)]; exact ⟨rfl, rfl⟩))
    (fun os started H enc _ => confFewer_lifted os started H enc)

end Go.Proofs.Ytelohlpjgfknoaa
