/- StateWithin: for any state, and any four ints, what is within a box and a top speed is within greater ones, a state that may be is within the greatest ones, and with one part beyond it is not; the arguments read as they did. Conditions: none but the statement's own (the machine and the model's bounds as Rows.StateWithinSaid states them). -/
import Derived.Test.YtmikjgflenbljaaZz60
import Derived.Test.YtmikjgflenbljaaZz21
namespace Go.Proofs.Ytmikjgflenbljaa
open Go.ChangeShapes Go.WideShapes Go.ChangeAt Go.RowKit

theorem stateWithin_calls {st x1 x2 x3 x4 : Int} {l : Value} {W : World} (_ : isI st) (hl : ListAt W l) (h1 : isI x1) (h2 : isI x2) (h3 : isI x3) (h4 : isI x4) :
    Calls Try.prog 5 #[sv st l, .int .i64 x1, .int .i64 x2, .int .i64 x3, .int .i64 x4] W fun r W' => r = .returned (.bool true) ∧ Below W.heap.size W W' := by
  rcases hl with rfl | ⟨b, off, cap, L, rfl, hl, hm, hw⟩
  · exact within5_nil st x1 x2 x3 x4 W
  · exact within5_at h1 h2 h3 h4 L b off cap W hl hm hw

set_option maxRecDepth 100000 in
theorem stateWithin_lifted (os : Os) (started : os.Started) (H : Type) (enc : TypeId × Value → H) :
    ReturnsInHanded {} Try.checked os 5 .any (Rows.stateWithinSpec.pre6 enc Try.prog Try.f5 Rows.stateWithinRow.domain false) (Rows.stateWithinSpec.post enc Try.prog Try.f5 false true false false) := by
  refine returnsInHanded_of_change (C := Try.checked) Try.own started (by kernel_rfl) Try.func5
    (ChangeSpec.witness6 (enc := enc) (C := Try.checked) false ⟨#[], #[sv 0 (.slice none 0 0), .int .i64 0, .int .i64 0, .int .i64 0, .int .i64 0], []⟩ 8 (by kernel_rfl) (by kernel_rfl) (by kernel_rfl) (by kernel_rfl)) ?_
  intro W base args ds gs before hval0 hW _ _
  have hval : ∀ (j : Nat) t v, Try.f5.params[j]? = some t → args[j]? = some v → Value.okWide Try.prog W .any base t v := hval0
  have hW' := hW
  obtain ⟨p, q, hA0, hV, hpq, hfz, hnd⟩ := hW
  have hA : DataW.TrodAll enc Try.prog W 0 (fun _ => true) true Try.f5.params.toList args.toList ds p := hA0
  rw [Try.params5] at hA hval
  obtain ⟨v0, a0, d0, b0, p0, q0, hargs0, hds0, hps0, h0, r0⟩ := trodAll_cons hA
  obtain ⟨v1, a1, d1, b1, p1, q1, hargs1, hds1, hps1, h1, r1⟩ := trodAll_cons r0
  obtain ⟨v2, a2, d2, b2, p2, q2, hargs2, hds2, hps2, h2, r2⟩ := trodAll_cons r1
  obtain ⟨v3, a3, d3, b3, p3, q3, hargs3, hds3, hps3, h3, r3⟩ := trodAll_cons r2
  obtain ⟨v4, a4, d4, b4, p4, q4, hargs4, hds4, hps4, h4, r4⟩ := trodAll_cons r3
  obtain ⟨ha, hd, hp⟩ := trodAll_nil r4
  subst ha
  subst hd
  subst hp
  subst hargs4
  subst hds4
  subst hps4
  subst hargs3
  subst hds3
  subst hps3
  subst hargs2
  subst hds2
  subst hps2
  subst hargs1
  subst hds1
  subst hps1
  have hargs : args = #[v0, v1, v2, v3, v4] := by cases args; simp_all
  subst hargs
  subst hds0
  obtain ⟨rfl, rfl⟩ := trodVars_none hV
  obtain ⟨x0, l0, w0, rfl, e0⟩ := open_state (hval 0 24 v0 rfl rfl) h0
  obtain ⟨x1, rfl, rfl, rfl, w1⟩ := open_int Try.underlying3 (hval 1 3 v1 rfl rfl) h1
  obtain ⟨x2, rfl, rfl, rfl, w2⟩ := open_int Try.underlying3 (hval 2 3 v2 rfl rfl) h2
  obtain ⟨x3, rfl, rfl, rfl, w3⟩ := open_int Try.underlying3 (hval 3 3 v3 rfl rfl) h3
  obtain ⟨x4, rfl, rfl, rfl, w4⟩ := open_int Try.underlying3 (hval 4 3 v4 rfl rfl) h4
  clear hA0 hval0
  simp only [List.append_nil] at hpq hW'
  refine (stateWithin_calls w0 e0 (wf_i64 w1) (wf_i64 w2) (wf_i64 w3) (wf_i64 w4)).mono fun e W' ⟨he, hB⟩ => ?_
  subst he
  exact ⟨_, rfl, post_of_below (pa := p) (pv := []) hW' (fun _ _ _ => trodAll_mk1 (shut_bool Try.underlying4 _))
    (fun sp hs => args_again (by decide +kernel) hA hB (fun q hq => hW'.lt q (by rw [hpq]; exact hq)) (fun q hq => hs q (by rw [hpq]; exact hq))) (fun _ _ => rfl) (by rw [List.append_nil]; exact hpq)
    hB (ok_one (by kernel_rfl) rfl (okWide_bool_mk Try.underlying4 _))⟩

theorem stateWithin_holds : Rows.StateWithinSaid :=
  OpenClaim.holds_of_wide 5 Try.f5 rfl rfl rfl rfl rfl rfl rfl ⟨rfl, rfl, rfl, rfl, rfl⟩ rfl rfl rfl rfl rfl (by kernel_rfl) Try.func5 (by kernel_rfl)
    (of_decide_eq_true (by kernel_rfl)) (by unfold Func.isWrapper; first | (rw [if_pos (by decide +kernel)]; kernel_rfl) | (rw [if_neg (by decide +kernel)]; exact ⟨rfl, rfl⟩))
    (fun os started H enc _ => stateWithin_lifted os started H enc)

end Go.Proofs.Ytmikjgflenbljaa
