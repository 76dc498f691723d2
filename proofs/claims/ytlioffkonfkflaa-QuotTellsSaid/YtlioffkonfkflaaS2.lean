/- QuotTells answers true at every two wide numbers and every three ints, and leaves its arguments as they were. No condition. -/
import Derived.Test.YtlioffkonfkflaaAw
import Derived.Test.YtlioffkonfkflaaT4
namespace Go.Proofs.Ytlioffkonfkflaa
open Go.ChangeShapes Go.WideShapes Go.ChangeAt Go.RowKit

theorem quotTells_calls {a0 b0 c0 e0 : Nat} (ha0 : a0 < 18446744073709551616) (hb0 : b0 < 18446744073709551616) (hc0 : c0 < 18446744073709551616) (he0 : e0 < 18446744073709551616) {a1 b1 c1 e1 : Nat} (ha1 : a1 < 18446744073709551616) (hb1 : b1 < 18446744073709551616) (hc1 : c1 < 18446744073709551616) (he1 : e1 < 18446744073709551616) {x2 : Int} (hx2 : isI x2) {x3 : Int} (hx3 : isI x3) {x4 : Int} (hx4 : isI x4) (w : World) :
    Calls Try.prog 3 #[W4 a0 b0 c0 e0, W4 a1 b1 c1 e1, .int .i64 x2, .int .i64 x3, .int .i64 x4] w fun r w' => r = .returned (.bool true) ∧ Below w.heap.size w w' := by
  obtain ⟨x0, hx0, ex0⟩ := W4_z ha0 hb0 hc0 he0
  rw [ex0]
  obtain ⟨x1, hx1, ex1⟩ := W4_z ha1 hb1 hc1 he1
  rw [ex1]
  exact tells3_walk hx0 hx1 hx2 hx3 hx4 w

set_option maxRecDepth 100000 in
theorem quotTells_lifted (os : Os) (started : os.Started) (H : Type) (enc : TypeId × Value → H) :
    ReturnsInHanded {} Try.checked os 3 .any (Rows.quotTellsSpec.pre6 enc Try.prog Try.f3 Rows.quotTellsRow.domain false) (Rows.quotTellsSpec.post enc Try.prog Try.f3 false true false false) := by
  refine returnsInHanded_of_change (C := Try.checked) Try.own started (by kernel_rfl) Try.func3
    (ChangeSpec.witness6 (enc := enc) (C := Try.checked) false ⟨#[], #[.agg #[.int .u64 0, .int .u64 0, .int .u64 0, .int .u64 0], .agg #[.int .u64 0, .int .u64 0, .int .u64 0, .int .u64 0], .int .i64 0, .int .i64 0, .int .i64 0], []⟩ 8 (by kernel_rfl) (by kernel_rfl) (by kernel_rfl) (by kernel_rfl)) ?_
  intro W base args ds gs before hval0 hW _ _
  have hval : ∀ (j : Nat) t v, Try.f3.params[j]? = some t → args[j]? = some v → Value.okWide Try.prog W .any base t v := hval0
  have hW' := hW
  obtain ⟨p, q, hA0, hV, rfl, hfz, hnd⟩ := hW
  have hA : DataW.TrodAll enc Try.prog W 0 (fun _ => true) true Try.f3.params.toList args.toList ds p := hA0
  rw [Try.params3] at hA hval
  obtain ⟨v0, v1, v2, v3, v4, d0, d1, d2, d3, d4, p0, p1, p2, p3, p4, rfl, rfl, rfl, h0, h1, h2, h3, h4⟩ := trodAll_five hA
  obtain ⟨rfl, rfl⟩ := trodVars_none hV
  obtain ⟨a0, b0, c0, e0, ha0, hb0, hc0, he0, rfl, rfl, rfl⟩ := open_wide (hval 0 24 v0 rfl rfl) h0
  obtain ⟨a1, b1, c1, e1, ha1, hb1, hc1, he1, rfl, rfl, rfl⟩ := open_wide (hval 1 24 v1 rfl rfl) h1
  obtain ⟨x2, rfl, rfl, rfl, w2⟩ := open_int Try.underlying3 (hval 2 3 v2 rfl rfl) h2
  obtain ⟨x3, rfl, rfl, rfl, w3⟩ := open_int Try.underlying3 (hval 3 3 v3 rfl rfl) h3
  obtain ⟨x4, rfl, rfl, rfl, w4⟩ := open_int Try.underlying3 (hval 4 3 v4 rfl rfl) h4
  clear hA0 hval0
  simp only [List.append_nil] at hW'
  refine (quotTells_calls ha0 hb0 hc0 he0 ha1 hb1 hc1 he1 (wf_i64 w2) (wf_i64 w3) (wf_i64 w4) W).mono fun e W' ⟨he, hB⟩ => ?_
  subst he
  exact ⟨_, rfl, post_of_below (pa := []) (pv := []) hW' (fun _ _ _ => trodAll_mk1 (shut_bool Try.underlying4 _)) (fun sp _ => trodAll_mk5 (shut_wide ha0 hb0 hc0 he0) (shut_wide ha1 hb1 hc1 he1) (shut_int Try.underlying3 w2) (shut_int Try.underlying3 w3) (shut_int Try.underlying3 w4)) (fun _ _ => rfl) rfl
    hB (ok_one (by kernel_rfl) rfl (okWide_bool_mk Try.underlying4 _))⟩

theorem quotTells_holds : Rows.QuotTellsSaid :=
  OpenClaim.holds_of_wide 3 Try.f3 rfl rfl rfl rfl rfl rfl rfl ⟨rfl, rfl, rfl, rfl, rfl⟩ rfl rfl rfl rfl rfl (by kernel_rfl) Try.func3 (by kernel_rfl)
    (of_decide_eq_true (by kernel_rfl)) (by unfold Func.isWrapper; first | (rw [if_pos (by decide +kernel)]; kernel_rfl) | (rw [if_neg (by decide +kernel)]; exact ⟨rfl, rfl⟩))
    (fun os started H enc _ => quotTells_lifted os started H enc)

end Go.Proofs.Ytlioffkonfkflaa
