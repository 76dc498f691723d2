/- NearWay answers true at every pair, and leaves its argument as it was. No condition. -/
import Derived.Test.YtpllklojcjhjaaaZz18
import Derived.Test.YtpllklojcjhjaaaZz19
namespace Go.Proofs.Ytpllklojcjhjaaa
open Go.ChangeShapes Go.WideShapes Go.ChangeAt Go.RowKit

set_option maxRecDepth 100000 in
theorem nearWay_lifted (os : Os) (started : os.Started) (H : Type) (enc : TypeId × Value → H) :
    ReturnsInHanded {} Try.checked os 5 .any (Rows.nearWaySpec.pre6 enc Try.prog Try.f5 Rows.nearWayRow.domain false) (Rows.nearWaySpec.post enc Try.prog Try.f5 false true false false) := by
  refine returnsInHanded_of_change (C := Try.checked) Try.own started (by kernel_rfl) Try.func5
    (ChangeSpec.witness6 (enc := enc) (C := Try.checked) false ⟨#[], #[.agg ⟨[ii 0, ii 0, ii 0]⟩], []⟩ 8 (by kernel_rfl) (by kernel_rfl) (by kernel_rfl) (by kernel_rfl)) ?_
  intro W base args ds gs before hval0 hW _ _
  have hval : ∀ (j : Nat) t v, Try.f5.params[j]? = some t → args[j]? = some v → Value.okWide Try.prog W .any base t v := hval0
  have hW' := hW
  obtain ⟨p, q, hA0, hV, hpq, hfz, hnd⟩ := hW
  have hA : DataW.TrodAll enc Try.prog W 0 (fun _ => true) true Try.f5.params.toList args.toList ds p := hA0
  rw [Try.params5] at hA hval
  obtain ⟨v0, a0, d0, b0, p0, q0, hargs0, hds0, hps0, h0, r0⟩ := trodAll_cons hA
  obtain ⟨ha, hd, hp⟩ := trodAll_nil r0
  subst ha
  subst hd
  subst hp
  have hargs : args = #[v0] := by cases args; simp_all
  subst hargs
  subst hds0
  obtain ⟨rfl, rfl⟩ := trodVars_none hV
  obtain ⟨i0, j0, k0, w0, rfl⟩ := open_pair (hval 0 36 v0 rfl rfl) h0
  clear hA0 hval0
  simp only [List.append_nil] at hpq hW'
  refine (pure_calls (args' := #[]) (way_walk i0 j0 w0.2.2) rfl W (gl_any W)).mono fun e W' ⟨he, hB⟩ => ?_
  subst he
  exact ⟨_, rfl, post_of_below (pa := p) (pv := []) hW' (fun _ _ _ => trodAll_mk1 (shut_bool Try.underlying4 _))
    (fun sp hs => args_again (by decide +kernel) hA hB (fun q hq => hW'.lt q (by rw [hpq]; exact hq)) (fun q hq => hs q (by rw [hpq]; exact hq))) (fun _ _ => rfl) (by rw [List.append_nil]; exact hpq)
    hB (ok_one (by kernel_rfl) rfl (okWide_bool_mk Try.underlying4 _))⟩

theorem nearWay_holds : Rows.NearWaySaid :=
  OpenClaim.holds_of_wide 5 Try.f5 rfl rfl rfl rfl rfl rfl rfl ⟨rfl, rfl, rfl, rfl, rfl⟩ rfl rfl rfl rfl rfl (by kernel_rfl) Try.func5 (by kernel_rfl)
    (of_decide_eq_true (by kernel_rfl)) (by unfold Func.isWrapper; first | (rw [if_pos (by decide +kernel)]; kernel_rfl) | (rw [if_neg (by decide +kernel)]; exact ⟨rfl, rfl⟩))
    (fun os started H enc _ => nearWay_lifted os started H enc)

end Go.Proofs.Ytpllklojcjhjaaa
