/- Contracts of the document's own functions of layer 2, by what their numbers come to: Neg, Add, Sub, size, Sign, Cmp, Of, Int. -/
import Derived.Test.YtecgclkjglkkbaaR3
import Derived.Test.YtecgclkjglkkbaaR6
namespace Go.Proofs.Ytecgclkjglkkbaa
open Go Go.RowKit Go.Shelf
set_option linter.unusedSimpArgs false
set_option linter.unusedVariables false

theorem refneg_x (a : Nat → Nat) (ha : Wds a) (w : World) : Calls Try.prog 17 #[.agg #[.int .u64 (a 0), .int .u64 (a 1), .int .u64 (a 2), .int .u64 (a 3)]] w fun ee w' => ee = .returned (.tuple #[.agg #[.int .u64 ((negR a) 0), .int .u64 ((negR a) 1), .int .u64 ((negR a) 2), .int .u64 ((negR a) 3)], .bool (negO a)]) ∧ Below w.heap.size w w' := by
  have hr := refNeg_words ha
  have hv := agg_eq hr (negR_words a) (refNeg_val ha)
  have hl := lowB_eq hr (negR_words a) (refNeg_val ha)
  have ho : negO a = (lowB a && lowB (refNeg a)) := by
    unfold negO subO
    rw [hl, show subR Zr a = negR a from rfl, show lowB Zr = false from rfl]
    cases lowB a <;> cases lowB (negR a) <;> rfl
  rw [ho, ← hv]
  cases hq : lowB a with
  | true => exact refneg_t a _ _ _ _ _ ha (digR_digs ha) (notR_digs (digR_digs ha)) (plusR_digs (notR_digs (digR_digs ha)) zr_digs (by omega)) hr rfl rfl rfl rfl hq (Bool.true_and _).symm w
  | false => exact refneg_f a _ _ _ _ _ ha (digR_digs ha) (notR_digs (digR_digs ha)) (plusR_digs (notR_digs (digR_digs ha)) zr_digs (by omega)) hr rfl rfl rfl rfl hq rfl w

theorem refadd_x (a b : Nat → Nat) (ha : Wds a) (hb : Wds b) (w : World) : Calls Try.prog 11 #[.agg #[.int .u64 (a 0), .int .u64 (a 1), .int .u64 (a 2), .int .u64 (a 3)], .agg #[.int .u64 (b 0), .int .u64 (b 1), .int .u64 (b 2), .int .u64 (b 3)]] w fun ee w' => ee = .returned (.tuple #[.agg #[.int .u64 ((addR a b) 0), .int .u64 ((addR a b) 1), .int .u64 ((addR a b) 2), .int .u64 ((addR a b) 3)], .bool (addO a b)]) ∧ Below w.heap.size w w' := by
  have hr := refAdd_words ha hb
  have hv := agg_eq hr (addR_words a b) (refAdd_val ha hb)
  have ho : addO a b = ((lowB a == lowB b) && (lowB (refAdd a b) != lowB a)) := by unfold addO; rw [lowB_eq hr (addR_words a b) (refAdd_val ha hb)]
  rw [ho, ← hv]
  have da := digR_digs ha
  have db := digR_digs hb
  have df := plusR_digs (c := 0) da db (by omega)
  cases hqa : lowB a <;> cases hqb : lowB b <;> cases hqr : lowB (refAdd a b)
  · exact refadd_000 a b _ _ _ _ ha hb da db df hr rfl rfl rfl rfl hqa hqb hqr w
  · exact refadd_001 a b _ _ _ _ ha hb da db df hr rfl rfl rfl rfl hqa hqb hqr w
  · exact refadd_012 a b _ _ _ _ _ ha hb da db df hr rfl rfl rfl rfl hqa hqb rfl w
  · exact refadd_012 a b _ _ _ _ _ ha hb da db df hr rfl rfl rfl rfl hqa hqb rfl w
  · exact refadd_102 a b _ _ _ _ _ ha hb da db df hr rfl rfl rfl rfl hqa hqb rfl w
  · exact refadd_102 a b _ _ _ _ _ ha hb da db df hr rfl rfl rfl rfl hqa hqb rfl w
  · exact refadd_110 a b _ _ _ _ ha hb da db df hr rfl rfl rfl rfl hqa hqb hqr w
  · exact refadd_111 a b _ _ _ _ ha hb da db df hr rfl rfl rfl rfl hqa hqb hqr w

theorem refsub_x (a b : Nat → Nat) (ha : Wds a) (hb : Wds b) (w : World) : Calls Try.prog 13 #[.agg #[.int .u64 (a 0), .int .u64 (a 1), .int .u64 (a 2), .int .u64 (a 3)], .agg #[.int .u64 (b 0), .int .u64 (b 1), .int .u64 (b 2), .int .u64 (b 3)]] w fun ee w' => ee = .returned (.tuple #[.agg #[.int .u64 ((subR a b) 0), .int .u64 ((subR a b) 1), .int .u64 ((subR a b) 2), .int .u64 ((subR a b) 3)], .bool (subO a b)]) ∧ Below w.heap.size w w' := by
  have hr := refSub_words ha hb
  have hv := agg_eq hr (subR_words a b) (refSub_val ha hb)
  have ho : subO a b = ((lowB a != lowB b) && (lowB (refSub a b) != lowB a)) := by unfold subO; rw [lowB_eq hr (subR_words a b) (refSub_val ha hb)]
  rw [ho, ← hv]
  have da := digR_digs ha
  have db := digR_digs hb
  have dn := notR_digs db
  have df := plusR_digs (c := 1) da dn (by omega)
  cases hqa : lowB a <;> cases hqb : lowB b <;> cases hqr : lowB (refSub a b)
  · exact refsub_002 a b _ _ _ _ _ _ ha hb da db dn df hr rfl rfl rfl rfl hqa hqb rfl rfl w
  · exact refsub_002 a b _ _ _ _ _ _ ha hb da db dn df hr rfl rfl rfl rfl hqa hqb rfl rfl w
  · exact refsub_010 a b _ _ _ _ _ ha hb da db dn df hr rfl rfl rfl rfl hqa hqb hqr rfl w
  · exact refsub_011 a b _ _ _ _ _ ha hb da db dn df hr rfl rfl rfl rfl hqa hqb hqr rfl w
  · exact refsub_100 a b _ _ _ _ _ ha hb da db dn df hr rfl rfl rfl rfl hqa hqb hqr rfl w
  · exact refsub_101 a b _ _ _ _ _ ha hb da db dn df hr rfl rfl rfl rfl hqa hqb hqr rfl w
  · exact refsub_112 a b _ _ _ _ _ _ ha hb da db dn df hr rfl rfl rfl rfl hqa hqb rfl rfl w
  · exact refsub_112 a b _ _ _ _ _ _ ha hb da db dn df hr rfl rfl rfl rfl hqa hqb rfl rfl w

theorem refneg_n {a n : Nat → Nat} {o : Bool} (ha : Wds a) (h : negR a = n) (h2 : negO a = o) (w : World) : Calls Try.prog 17 #[.agg #[.int .u64 (a 0), .int .u64 (a 1), .int .u64 (a 2), .int .u64 (a 3)]] w fun ee w' => ee = .returned (.tuple #[.agg #[.int .u64 (n 0), .int .u64 (n 1), .int .u64 (n 2), .int .u64 (n 3)], .bool o]) ∧ Below w.heap.size w w' := by subst h h2; exact refneg_x a ha w
set_option maxRecDepth 100000 in
set_option maxHeartbeats 4000000 in
theorem refsize_t (a n d : Nat → Nat) (o : Bool) (ha : Wds a) (hn : Wds n) (h1 : lowB a = true) (h2 : negR a = n) (h4 : negO a = o) (h3 : digR n = d)  (w : World) :
    Calls Try.prog 58 #[.agg #[.int .u64 (a 0), .int .u64 (a 1), .int .u64 (a 2), .int .u64 (a 3)]] w fun ee w' => ee = .returned (.agg #[.int .u64 (d 0), .int .u64 (d 1), .int .u64 (d 2), .int .u64 (d 3), .int .u64 (d 4), .int .u64 (d 5), .int .u64 (d 6), .int .u64 (d 7)]) ∧ Below w.heap.size w w' := by
  have Xh1 := Lib.hid h1
  have Xh2 := Lib.hid h2
  have Xh4 := Lib.hid h4
  have Xh3 := Lib.hid h3
  clear h1 h2 h4 h3
  have hL := lv_nil w
  go_enter Try.func58, Try.ntmps58
  go_wp2_with fail
  obtain ⟨V1, B2, hV3, hB4, hL⟩ := lv_grow hL (Obj.cells #[.int .u64 (a 0), .int .u64 (a 1), .int .u64 (a 2), .int .u64 (a 3)] 24)
  rw [hV3]
  try rw [hB4]
  obtain ⟨V5, B6, hV7, hB8, hL⟩ := lv_grow hL (Obj.cells #[.int .u64 0, .int .u64 0, .int .u64 0, .int .u64 0, .int .u64 0, .int .u64 0, .int .u64 0, .int .u64 0] 54)
  rw [hV7]
  have hs9 : B2 + 1 = B6 := by rw [← hB8, ← hV3, World.size_alloc, hB4]
  try rw [hs9]
  clear hs9
  clear hV3 hB4 hV7 hB8
  refine (low_c ha Xh1.out _).mono ?_
  rintro e W10 ⟨rfl, hB⟩
  replace hL := lv_below hL hB
  clear hB
  obtain ⟨q11, q12, q13, q14⟩ := lv_cells4 hL lm1
  go_wp2_with fail
  clear q11 q12 q13 q14
  refine (refneg_n ha Xh2.out Xh4.out _).mono ?_
  rintro e W15 ⟨rfl, hB⟩
  replace hL := lv_below hL hB
  clear hB
  obtain ⟨q16, q17, q18, q19⟩ := lv_cells4 hL lm1
  have z20 := lv_frozen hL lm1 0
  have z21 := lv_frozen hL lm1 1
  have z22 := lv_frozen hL lm1 2
  have z23 := lv_frozen hL lm1 3
  go_wp2_with fail
  clear q16 q17 q18 q19 z20 z21 z22 z23
  obtain ⟨V24, hV25, hL⟩ : ∃ V, (World.setCell (World.setCell (World.setCell (World.setCell W15 ⟨B2, 0, none⟩ (.int .u64 (n 0))) ⟨B2, 1, none⟩ (.int .u64 (n 1))) ⟨B2, 2, none⟩ (.int .u64 (n 2))) ⟨B2, 3, none⟩ (.int .u64 (n 3))) = V ∧ Lv w [(B6, Obj.cells #[.int .u64 0, .int .u64 0, .int .u64 0, .int .u64 0, .int .u64 0, .int .u64 0, .int .u64 0, .int .u64 0] 54 (0, 0)), (B2, Obj.cells #[.int .u64 (n 0), .int .u64 (n 1), .int .u64 (n 2), .int .u64 (n 3)] 24 (0, 0))] V := ⟨_, rfl, lv_store4 [(B6, Obj.cells #[.int .u64 0, .int .u64 0, .int .u64 0, .int .u64 0, .int .u64 0, .int .u64 0, .int .u64 0, .int .u64 0] 54 (0, 0))] hL _ _ _ _⟩
  rw [hV25]
  clear hV25
  refine (digits_c hn Xh3.out _).mono ?_
  rintro e W26 ⟨rfl, hB⟩
  replace hL := lv_below hL hB
  clear hB
  obtain ⟨q27, q28, q29, q30, q31, q32, q33, q34⟩ := lv_cells8 hL lm0
  have z35 := lv_frozen hL lm0 0
  have z36 := lv_frozen hL lm0 1
  have z37 := lv_frozen hL lm0 2
  have z38 := lv_frozen hL lm0 3
  have z39 := lv_frozen hL lm0 4
  have z40 := lv_frozen hL lm0 5
  have z41 := lv_frozen hL lm0 6
  have z42 := lv_frozen hL lm0 7
  go_wp2_with fail
  clear q27 q28 q29 q30 q31 q32 q33 q34 z35 z36 z37 z38 z39 z40 z41 z42
  obtain ⟨V43, hV44, hL⟩ : ∃ V, (World.setCell (World.setCell (World.setCell (World.setCell (World.setCell (World.setCell (World.setCell (World.setCell W26 ⟨B6, 0, none⟩ (.int .u64 (d 0))) ⟨B6, 1, none⟩ (.int .u64 (d 1))) ⟨B6, 2, none⟩ (.int .u64 (d 2))) ⟨B6, 3, none⟩ (.int .u64 (d 3))) ⟨B6, 4, none⟩ (.int .u64 (d 4))) ⟨B6, 5, none⟩ (.int .u64 (d 5))) ⟨B6, 6, none⟩ (.int .u64 (d 6))) ⟨B6, 7, none⟩ (.int .u64 (d 7))) = V ∧ Lv w [(B6, Obj.cells #[.int .u64 (d 0), .int .u64 (d 1), .int .u64 (d 2), .int .u64 (d 3), .int .u64 (d 4), .int .u64 (d 5), .int .u64 (d 6), .int .u64 (d 7)] 54 (0, 0)), (B2, Obj.cells #[.int .u64 (n 0), .int .u64 (n 1), .int .u64 (n 2), .int .u64 (n 3)] 24 (0, 0))] V := ⟨_, rfl, lv_store8 [] hL _ _ _ _ _ _ _ _⟩
  rw [hV44]
  clear hV44
  obtain ⟨k45, k46, k47, k48, k49, k50, k51, k52⟩ := lv_cells8 hL lm0
  refine bodyPost_ret (v := .agg #[.int .u64 (d 0), .int .u64 (d 1), .int .u64 (d 2), .int .u64 (d 3), .int .u64 (d 4), .int .u64 (d 5), .int .u64 (d 6), .int .u64 (d 7)]) (by simp [results, Try.results58, go_sem, k45, k46, k47, k48, k49, k50, k51, k52]) rfl ⟨rfl, hL.2.2.2⟩

set_option maxRecDepth 100000 in
set_option maxHeartbeats 4000000 in
theorem refsize_f (a d : Nat → Nat) (ha : Wds a) (h1 : lowB a = false) (h3 : digR a = d)  (w : World) :
    Calls Try.prog 58 #[.agg #[.int .u64 (a 0), .int .u64 (a 1), .int .u64 (a 2), .int .u64 (a 3)]] w fun ee w' => ee = .returned (.agg #[.int .u64 (d 0), .int .u64 (d 1), .int .u64 (d 2), .int .u64 (d 3), .int .u64 (d 4), .int .u64 (d 5), .int .u64 (d 6), .int .u64 (d 7)]) ∧ Below w.heap.size w w' := by
  have Xh1 := Lib.hid h1
  have Xh3 := Lib.hid h3
  clear h1 h3
  have hL := lv_nil w
  go_enter Try.func58, Try.ntmps58
  go_wp2_with fail
  obtain ⟨V1, B2, hV3, hB4, hL⟩ := lv_grow hL (Obj.cells #[.int .u64 (a 0), .int .u64 (a 1), .int .u64 (a 2), .int .u64 (a 3)] 24)
  rw [hV3]
  try rw [hB4]
  obtain ⟨V5, B6, hV7, hB8, hL⟩ := lv_grow hL (Obj.cells #[.int .u64 0, .int .u64 0, .int .u64 0, .int .u64 0, .int .u64 0, .int .u64 0, .int .u64 0, .int .u64 0] 54)
  rw [hV7]
  have hs9 : B2 + 1 = B6 := by rw [← hB8, ← hV3, World.size_alloc, hB4]
  try rw [hs9]
  clear hs9
  clear hV3 hB4 hV7 hB8
  refine (low_c ha Xh1.out _).mono ?_
  rintro e W10 ⟨rfl, hB⟩
  replace hL := lv_below hL hB
  clear hB
  obtain ⟨q11, q12, q13, q14⟩ := lv_cells4 hL lm1
  go_wp2_with fail
  clear q11 q12 q13 q14
  refine (digits_c ha Xh3.out _).mono ?_
  rintro e W15 ⟨rfl, hB⟩
  replace hL := lv_below hL hB
  clear hB
  obtain ⟨q16, q17, q18, q19, q20, q21, q22, q23⟩ := lv_cells8 hL lm0
  have z24 := lv_frozen hL lm0 0
  have z25 := lv_frozen hL lm0 1
  have z26 := lv_frozen hL lm0 2
  have z27 := lv_frozen hL lm0 3
  have z28 := lv_frozen hL lm0 4
  have z29 := lv_frozen hL lm0 5
  have z30 := lv_frozen hL lm0 6
  have z31 := lv_frozen hL lm0 7
  go_wp2_with fail
  clear q16 q17 q18 q19 q20 q21 q22 q23 z24 z25 z26 z27 z28 z29 z30 z31
  obtain ⟨V32, hV33, hL⟩ : ∃ V, (World.setCell (World.setCell (World.setCell (World.setCell (World.setCell (World.setCell (World.setCell (World.setCell W15 ⟨B6, 0, none⟩ (.int .u64 (d 0))) ⟨B6, 1, none⟩ (.int .u64 (d 1))) ⟨B6, 2, none⟩ (.int .u64 (d 2))) ⟨B6, 3, none⟩ (.int .u64 (d 3))) ⟨B6, 4, none⟩ (.int .u64 (d 4))) ⟨B6, 5, none⟩ (.int .u64 (d 5))) ⟨B6, 6, none⟩ (.int .u64 (d 6))) ⟨B6, 7, none⟩ (.int .u64 (d 7))) = V ∧ Lv w [(B6, Obj.cells #[.int .u64 (d 0), .int .u64 (d 1), .int .u64 (d 2), .int .u64 (d 3), .int .u64 (d 4), .int .u64 (d 5), .int .u64 (d 6), .int .u64 (d 7)] 54 (0, 0)), (B2, Obj.cells #[.int .u64 (a 0), .int .u64 (a 1), .int .u64 (a 2), .int .u64 (a 3)] 24 (0, 0))] V := ⟨_, rfl, lv_store8 [] hL _ _ _ _ _ _ _ _⟩
  rw [hV33]
  clear hV33
  obtain ⟨k34, k35, k36, k37, k38, k39, k40, k41⟩ := lv_cells8 hL lm0
  refine bodyPost_ret (v := .agg #[.int .u64 (d 0), .int .u64 (d 1), .int .u64 (d 2), .int .u64 (d 3), .int .u64 (d 4), .int .u64 (d 5), .int .u64 (d 6), .int .u64 (d 7)]) (by simp [results, Try.results58, go_sem, k34, k35, k36, k37, k38, k39, k40, k41]) rfl ⟨rfl, hL.2.2.2⟩

theorem refsize_x (a : Nat → Nat) (ha : Wds a) (w : World) : Calls Try.prog 58 #[.agg #[.int .u64 (a 0), .int .u64 (a 1), .int .u64 (a 2), .int .u64 (a 3)]] w fun ee w' => ee = .returned (.agg #[.int .u64 ((digR (sizeR a)) 0), .int .u64 ((digR (sizeR a)) 1), .int .u64 ((digR (sizeR a)) 2), .int .u64 ((digR (sizeR a)) 3), .int .u64 ((digR (sizeR a)) 4), .int .u64 ((digR (sizeR a)) 5), .int .u64 ((digR (sizeR a)) 6), .int .u64 ((digR (sizeR a)) 7)]) ∧ Below w.heap.size w w' := by
  unfold sizeR
  cases h : lowB a with
  | true => rw [if_pos rfl]; exact refsize_t a _ _ _ ha (negR_words a) h rfl rfl rfl w
  | false => rw [if_neg (by simp)]; exact refsize_f a _ ha h rfl w

end Go.Proofs.Ytecgclkjglkkbaa
