/- IvalTells: the program's answers of intervals (which may be, points, sums, products, parts, hulls, meets, what is held, widths) are the document's own, for any two intervals, any two ints and any list of intervals; the arguments read as they did. Conditions: none but the statement's own (the machine and the model's bounds as Rows.IvalTellsSaid states them). -/
import Derived.Test.YtlioffkonfkflaaGreatZz40
import Derived.Test.YtlioffkonfkflaaGreatZz39
namespace Go.Proofs.YtlioffkonfkflaaGreat
open Go.ChangeShapes Go.WideShapes Go.ChangeAt Go.RowKit

theorem ivalTells_calls {x0 x1 : IV} {x2 x3 : Int} {v4 : Value} {W : World} (h2 : isI x2) (h3 : isI x3)
    (hv : v4 = .slice none 0 0 ∨ ∃ (b off cap : Nat) (L : List IV), v4 = slw b off L.length cap ∧ L.length ≤ cap ∧ cap ≤ maxLen ∧ WinAt off (cw off L) W.heap[b]?) :
    Calls Tryz.prog 3 #[ivv x0, ivv x1, .int .i64 x2, .int .i64 x3, v4] W fun r W' => r = .returned (.bool true) ∧ Below W.heap.size W W' := by
  rcases hv with rfl | ⟨b, off, cap, L, rfl, hl, hm, hw⟩
  · exact tells5_nil x0 x1 h2 h3 W
  · exact tells5_at x0 x1 h2 h3 b off cap L hl hm W hw

set_option maxRecDepth 100000 in
theorem ivalTells_lifted (os : Os) (started : os.Started) (H : Type) (enc : TypeId × Value → H) :
    ReturnsInHanded {} Tryz.checked os 3 .any (Rows.ivalTellsSpec.pre6 enc Tryz.prog Tryz.f3 Rows.ivalTellsRow.domain false) (Rows.ivalTellsSpec.post enc Tryz.prog Tryz.f3 false true false false) := by
  refine returnsInHanded_of_change (C := Tryz.checked) Tryz.own started (by kernel_rfl) Tryz.func3
    (ChangeSpec.witness6 (enc := enc) (C := Tryz.checked) false ⟨#[], #[iv 0 0 false, iv 0 0 false, .int .i64 0, .int .i64 0, .slice none 0 0], []⟩ 8 (by kernel_rfl) (by kernel_rfl) (by kernel_rfl) (by kernel_rfl)) ?_
  intro W base args ds gs before hval0 hW _ _
  have hval : ∀ (j : Nat) t v, Tryz.f3.params[j]? = some t → args[j]? = some v → Value.okWide Tryz.prog W .any base t v := hval0
  have hW' := hW
  obtain ⟨p, q, hA0, hV, hpq, hfz, hnd⟩ := hW
  have hA : DataW.TrodAll enc Tryz.prog W 0 (fun _ => true) true Tryz.f3.params.toList args.toList ds p := hA0
  rw [Tryz.params3] at hA hval
  obtain ⟨v0, v1, v2, v3, v4, d0, d1, d2, d3, d4, p0, p1, p2, p3, p4, hargs, hds, hps, h0, h1, h2, h3, h4⟩ := trodAll_five hA
  subst hargs
  subst hds
  obtain ⟨rfl, rfl⟩ := trodVars_none hV
  obtain ⟨x0, hx0, rfl, rfl, rfl⟩ := open_ival (hval 0 23 v0 rfl rfl) h0
  obtain ⟨x1, hx1, rfl, rfl, rfl⟩ := open_ival (hval 1 23 v1 rfl rfl) h1
  obtain ⟨x2, rfl, rfl, rfl, w2⟩ := open_int Tryz.underlying3 (hval 2 3 v2 rfl rfl) h2
  obtain ⟨x3, rfl, rfl, rfl, w3⟩ := open_int Tryz.underlying3 (hval 3 3 v3 rfl rfl) h3
  have hl := open_list (hval 4 24 v4 rfl rfl) h4
  clear hA0 hval0
  simp only [List.append_nil] at hpq hW'
  refine (ivalTells_calls (wf_i64 w2) (wf_i64 w3) hl).mono fun e W' ⟨he, hB⟩ => ?_
  subst he
  exact ⟨_, rfl, post_of_below (pa := p) (pv := []) hW' (fun _ _ _ => trodAll_mk1 (shut_bool Tryz.underlying4 _))
    (fun sp hs => args_again (by decide +kernel) hA hB (fun q hq => hW'.lt q (by rw [hpq]; exact hq)) (fun q hq => hs q (by rw [hpq]; exact hq))) (fun _ _ => rfl) (by rw [List.append_nil]; exact hpq)
    hB (ok_one (by kernel_rfl) rfl (okWide_bool_mk Tryz.underlying4 _))⟩

theorem ivalTells_holds : Rows.IvalTellsSaid :=
  OpenClaim.holds_of_wide 3 Tryz.f3 rfl rfl rfl rfl rfl rfl rfl ⟨rfl, rfl, rfl, rfl, rfl⟩ rfl rfl rfl rfl rfl (by kernel_rfl) Tryz.func3 (by kernel_rfl)
    (of_decide_eq_true (by kernel_rfl)) (by unfold Func.isWrapper; first | (rw [if_pos (by decide +kernel)]; kernel_rfl) | (rw [if_neg (by decide +kernel)]; exact ⟨rfl, rfl⟩))
    (fun os started H enc _ => ivalTells_lifted os started H enc)

end Go.Proofs.YtlioffkonfkflaaGreat
