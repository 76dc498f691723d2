/- StateTurned: for any state that may be, turned about and turned again it is what it was, and it may be, turned about; its places stay, its velocities and its step are turned about, its least way is the same; the argument reads as it did. Conditions: none but the statement's own (the machine and the model's bounds as Rows.StateTurnedSaid states them). -/
import Derived.Test.YtmikjgflenbljaaZz60
import Derived.Test.YtmikjgflenbljaaZz28
namespace Go.Proofs.Ytmikjgflenbljaa
open Go.ChangeShapes Go.WideShapes Go.ChangeAt Go.RowKit

theorem stateTurned_calls {st : Int} {l : Value} {W : World} (_ : isI st) (hl : ListAt W l) :
    Calls Try.prog 4 #[sv st l] W fun r W' => r = .returned (.bool true) ∧ Below W.heap.size W W' := by
  rcases hl with rfl | ⟨b, off, cap, L, rfl, hl, hm, hw⟩
  · exact turned4_nil st W
  · exact turned4_at st L b off cap W hl hm hw

set_option maxRecDepth 100000 in
theorem stateTurned_lifted (os : Os) (started : os.Started) (H : Type) (enc : TypeId × Value → H) :
    ReturnsInHanded {} Try.checked os 4 .any (Rows.stateTurnedSpec.pre6 enc Try.prog Try.f4 Rows.stateTurnedRow.domain false) (Rows.stateTurnedSpec.post enc Try.prog Try.f4 false true false false) := by
  refine returnsInHanded_of_change (C := Try.checked) Try.own started (by kernel_rfl) Try.func4
    (ChangeSpec.witness6 (enc := enc) (C := Try.checked) false ⟨#[], #[sv 0 (.slice none 0 0)], []⟩ 8 (by kernel_rfl) (by kernel_rfl) (by kernel_rfl) (by kernel_rfl)) ?_
  intro W base args ds gs before hval0 hW _ _
  have hval : ∀ (j : Nat) t v, Try.f4.params[j]? = some t → args[j]? = some v → Value.okWide Try.prog W .any base t v := hval0
  have hW' := hW
  obtain ⟨p, q, hA0, hV, hpq, hfz, hnd⟩ := hW
  have hA : DataW.TrodAll enc Try.prog W 0 (fun _ => true) true Try.f4.params.toList args.toList ds p := hA0
  rw [Try.params4] at hA hval
  obtain ⟨v0, a0, d0, b0, p0, q0, hargs0, hds0, hps0, h0, r0⟩ := trodAll_cons hA
  obtain ⟨ha, hd, hp⟩ := trodAll_nil r0
  subst ha
  subst hd
  subst hp
  have hargs : args = #[v0] := by cases args; simp_all
  subst hargs
  subst hds0
  obtain ⟨rfl, rfl⟩ := trodVars_none hV
  obtain ⟨x0, l0, w0, rfl, e0⟩ := open_state (hval 0 24 v0 rfl rfl) h0
  clear hA0 hval0
  simp only [List.append_nil] at hpq hW'
  refine (stateTurned_calls w0 e0).mono fun e W' ⟨he, hB⟩ => ?_
  subst he
  exact ⟨_, rfl, post_of_below (pa := p) (pv := []) hW' (fun _ _ _ => trodAll_mk1 (shut_bool Try.underlying4 _))
    (fun sp hs => args_again (by decide +kernel) hA hB (fun q hq => hW'.lt q (by rw [hpq]; exact hq)) (fun q hq => hs q (by rw [hpq]; exact hq))) (fun _ _ => rfl) (by rw [List.append_nil]; exact hpq)
    hB (ok_one (by kernel_rfl) rfl (okWide_bool_mk Try.underlying4 _))⟩

theorem stateTurned_holds : Rows.StateTurnedSaid :=
  OpenClaim.holds_of_wide 4 Try.f4 rfl rfl rfl rfl rfl rfl rfl ⟨rfl, rfl, rfl, rfl, rfl⟩ rfl rfl rfl rfl rfl (by kernel_rfl) Try.func4 (by kernel_rfl)
    (of_decide_eq_true (by kernel_rfl)) (by unfold Func.isWrapper; first | (rw [if_pos (by decide +kernel)]; kernel_rfl) | (rw [if_neg (by decide +kernel)]; exact ⟨rfl, rfl⟩))
    (fun os started H enc _ => stateTurned_lifted os started H enc)

end Go.Proofs.Ytmikjgflenbljaa
