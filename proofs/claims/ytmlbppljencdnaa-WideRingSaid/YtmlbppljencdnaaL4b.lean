/- WideRing answers true at every input: the walk. -/
import Derived.Test.YtmlbppljencdnaaL4a
namespace Go.Proofs.Ytmlbppljencdnaa
open Go Go.RowKit Go.Shelf

set_option maxRecDepth 100000 in
set_option maxHeartbeats 8000000 in
theorem ring_w (a b c ab ba bc x y back p q pc b1 a1 s ac t one minus neg nul o1 om : Nat → Nat) (oab oba obc ox oy oback op oq opc ob1 oa1 os oac ot ominus oneg : Bool) (ha : Wds a) (hb : Wds b) (hc : Wds c) (vab : Wds ab) (vbc : Wds bc) (vp : Wds p) (vb1 : Wds b1) (vac : Wds ac)
    (h1 : addR a b = ab) (h2 : addR b a = ba) (h3 : addR b c = bc) (h4 : addR ab c = x) (h5 : addR a bc = y) (h6 : subR ab b = back) (h7 : mulR a b = p) (h8 : mulR b a = q) (h9 : mulR p c = pc) (h10 : mulR b c = b1) (h11 : mulR a b1 = a1) (h12 : mulR a bc = s) (h13 : mulR a c = ac) (h14 : addR p ac = t) (h15 : negR a = neg)
    (g1 : addO a b = oab) (g2 : addO b a = oba) (g3 : addO b c = obc) (g4 : addO ab c = ox) (g5 : addO a bc = oy) (g6 : subO ab b = oback) (g7 : mulO a b = op) (g8 : mulO b a = oq) (g9 : mulO p c = opc) (g10 : mulO b c = ob1) (g11 : mulO a b1 = oa1) (g12 : mulO a bc = os) (g13 : mulO a c = oac) (g14 : addO p ac = ot) (g15 : negO a = oneg)
    (C1 : ∀ W, Calls Try.prog 21 #[.int .i64 1] W fun e w' => e = .returned (.agg #[.int .u64 (o1 0), .int .u64 (o1 1), .int .u64 (o1 2), .int .u64 (o1 3)]) ∧ Below W.heap.size W w')
    (C1m : ∀ W, Calls Try.prog 13 #[.agg #[.int .u64 (a 0), .int .u64 (a 1), .int .u64 (a 2), .int .u64 (a 3)], .agg #[.int .u64 (o1 0), .int .u64 (o1 1), .int .u64 (o1 2), .int .u64 (o1 3)]] W fun e w' => e = .returned (.tuple #[.agg #[.int .u64 (one 0), .int .u64 (one 1), .int .u64 (one 2), .int .u64 (one 3)], .bool false]) ∧ Below W.heap.size W w')
    (C2 : ∀ W, Calls Try.prog 21 #[.int .i64 (-1)] W fun e w' => e = .returned (.agg #[.int .u64 (om 0), .int .u64 (om 1), .int .u64 (om 2), .int .u64 (om 3)]) ∧ Below W.heap.size W w')
    (C2m : ∀ W, Calls Try.prog 13 #[.agg #[.int .u64 (a 0), .int .u64 (a 1), .int .u64 (a 2), .int .u64 (a 3)], .agg #[.int .u64 (om 0), .int .u64 (om 1), .int .u64 (om 2), .int .u64 (om 3)]] W fun e w' => e = .returned (.tuple #[.agg #[.int .u64 (minus 0), .int .u64 (minus 1), .int .u64 (minus 2), .int .u64 (minus 3)], .bool ominus]) ∧ Below W.heap.size W w')
    (C3 : ∀ W, Calls Try.prog 13 #[.agg #[.int .u64 (a 0), .int .u64 (a 1), .int .u64 (a 2), .int .u64 (a 3)], .agg #[.int .u64 0, .int .u64 0, .int .u64 0, .int .u64 0]] W fun e w' => e = .returned (.tuple #[.agg #[.int .u64 (nul 0), .int .u64 (nul 1), .int .u64 (nul 2), .int .u64 (nul 3)], .bool false]) ∧ Below W.heap.size W w')
    (e1 : eqB ab ba = true) (e2 : eqB x y = true) (e3 : eqB back a = true) (e4 : eqB p q = true) (e5 : eqB pc a1 = true) (e6 : eqB s t = true) (e7 : eqB one a = true) (e8 : eqB minus neg = true) (e9 : eqB nul Zr = true) (w : World) :
    Calls Try.prog 4 #[.agg #[.int .u64 (a 0), .int .u64 (a 1), .int .u64 (a 2), .int .u64 (a 3)], .agg #[.int .u64 (b 0), .int .u64 (b 1), .int .u64 (b 2), .int .u64 (b 3)], .agg #[.int .u64 (c 0), .int .u64 (c 1), .int .u64 (c 2), .int .u64 (c 3)]] w fun e w' => e = .returned (.bool true) ∧ Below w.heap.size w w' := by
  have E1 := fun w => eq_c e1 w
  have E2 := fun w => eq_c e2 w
  have E3 := fun w => eq_c e3 w
  have E4 := fun w => eq_c e4 w
  have E5 := fun w => eq_c e5 w
  have E6 := fun w => eq_c e6 w
  have E7 := fun w => eq_c e7 w
  have E8 := fun w => eq_c e8 w
  have E9 : ∀ w, (Op.equalIn 10000 24 (.agg #[.int .u64 (nul 0), .int .u64 (nul 1), .int .u64 (nul 2), .int .u64 (nul 3)]) (.agg #[.int .u64 0, .int .u64 0, .int .u64 0, .int .u64 0])).run Try.prog w = .ok true w := fun w => eq_c e9 w
  clear e1 e2 e3 e4 e5 e6 e7 e8 e9
  have hL := live_alloc (live_alloc (live_alloc (live_nil w) a) b) c
  simp only [World.size_alloc] at hL
  have Xh1 := Lib.hid h1
  have Xh2 := Lib.hid h2
  have Xh3 := Lib.hid h3
  have Xh4 := Lib.hid h4
  have Xh5 := Lib.hid h5
  have Xh6 := Lib.hid h6
  have Xh7 := Lib.hid h7
  have Xh8 := Lib.hid h8
  have Xh9 := Lib.hid h9
  have Xh10 := Lib.hid h10
  have Xh11 := Lib.hid h11
  have Xh12 := Lib.hid h12
  have Xh13 := Lib.hid h13
  have Xh14 := Lib.hid h14
  have Xh15 := Lib.hid h15
  have Xg1 := Lib.hid g1
  have Xg2 := Lib.hid g2
  have Xg3 := Lib.hid g3
  have Xg4 := Lib.hid g4
  have Xg5 := Lib.hid g5
  have Xg6 := Lib.hid g6
  have Xg7 := Lib.hid g7
  have Xg8 := Lib.hid g8
  have Xg9 := Lib.hid g9
  have Xg10 := Lib.hid g10
  have Xg11 := Lib.hid g11
  have Xg12 := Lib.hid g12
  have Xg13 := Lib.hid g13
  have Xg14 := Lib.hid g14
  have Xg15 := Lib.hid g15
  clear h1 h2 h3 h4 h5 h6 h7 h8 h9 h10 h11 h12 h13 h14 h15 g1 g2 g3 g4 g5 g6 g7 g8 g9 g10 g11 g12 g13 g14 g15
  go_enter Try.func4, Try.ntmps4
  go_wp2_with fail
  obtain ⟨V0, hV0⟩ : ∃ V, ((w.alloc (.cells #[.int .u64 (a 0), .int .u64 (a 1), .int .u64 (a 2), .int .u64 (a 3)] 24)).alloc (.cells #[.int .u64 (b 0), .int .u64 (b 1), .int .u64 (b 2), .int .u64 (b 3)] 24)).alloc (.cells #[.int .u64 (c 0), .int .u64 (c 1), .int .u64 (c 2), .int .u64 (c 3)] 24) = V := ⟨_, rfl⟩
  rw [hV0] at hL ⊢
  obtain ⟨Bc, hBc⟩ : ∃ B, w.heap.size + 1 + 1 = B := ⟨_, rfl⟩
  rw [hBc] at hL ⊢
  obtain ⟨Bb, hBb⟩ : ∃ B, w.heap.size + 1 = B := ⟨_, rfl⟩
  rw [hBb] at hL ⊢
  obtain ⟨Ba, hBa⟩ : ∃ B, w.heap.size = B := ⟨_, rfl⟩
  rw [hBa] at hL ⊢
  clear hV0 hBc hBb hBa
  refine (add_c ha hb Xh1.out Xg1.out _).mono ?_
  rintro e W3 ⟨rfl, hB⟩
  have hL2 := live_alloc (live_below hL hB) ab
  clear hB hL
  have hL := hL2
  clear hL2
  have q4a := (live_get hL Bb b (by simp)).cell 0 (by omega)
  have q4b := (live_get hL Bb b (by simp)).cell 1 (by omega)
  have q4c := (live_get hL Bb b (by simp)).cell 2 (by omega)
  have q4d := (live_get hL Bb b (by simp)).cell 3 (by omega)
  have q5a := (live_get hL Ba a (by simp)).cell 0 (by omega)
  have q5b := (live_get hL Ba a (by simp)).cell 1 (by omega)
  have q5c := (live_get hL Ba a (by simp)).cell 2 (by omega)
  have q5d := (live_get hL Ba a (by simp)).cell 3 (by omega)
  go_wp2_with fail
  clear q4a q4b q4c q4d q5a q5b q5c q5d
  obtain ⟨B6, hBx⟩ : ∃ B, W3.heap.size = B := ⟨_, rfl⟩
  obtain ⟨V6, hVx⟩ : ∃ V, W3.alloc (.cells #[.int .u64 (ab 0), .int .u64 (ab 1), .int .u64 (ab 2), .int .u64 (ab 3)] 24) = V := ⟨_, rfl⟩
  rw [hBx, hVx] at hL
  rw [hBx, hVx]
  clear hBx hVx
  refine (add_c hb ha Xh2.out Xg2.out _).mono ?_
  rintro e W7 ⟨rfl, hB⟩
  have hL2 := live_alloc (live_below hL hB) ba
  clear hB hL
  have hL := hL2
  clear hL2
  have q8a := (live_get hL Bb b (by simp)).cell 0 (by omega)
  have q8b := (live_get hL Bb b (by simp)).cell 1 (by omega)
  have q8c := (live_get hL Bb b (by simp)).cell 2 (by omega)
  have q8d := (live_get hL Bb b (by simp)).cell 3 (by omega)
  have q9a := (live_get hL Bc c (by simp)).cell 0 (by omega)
  have q9b := (live_get hL Bc c (by simp)).cell 1 (by omega)
  have q9c := (live_get hL Bc c (by simp)).cell 2 (by omega)
  have q9d := (live_get hL Bc c (by simp)).cell 3 (by omega)
  go_wp2_with fail
  clear q8a q8b q8c q8d q9a q9b q9c q9d
  obtain ⟨B10, hBx⟩ : ∃ B, W7.heap.size = B := ⟨_, rfl⟩
  obtain ⟨V10, hVx⟩ : ∃ V, W7.alloc (.cells #[.int .u64 (ba 0), .int .u64 (ba 1), .int .u64 (ba 2), .int .u64 (ba 3)] 24) = V := ⟨_, rfl⟩
  rw [hBx, hVx] at hL
  rw [hBx, hVx]
  clear hBx hVx
  refine (add_c hb hc Xh3.out Xg3.out _).mono ?_
  rintro e W11 ⟨rfl, hB⟩
  have hL2 := live_alloc (live_below hL hB) bc
  clear hB hL
  have hL := hL2
  clear hL2
  have q12a := (live_get hL B6 ab (by simp)).cell 0 (by omega)
  have q12b := (live_get hL B6 ab (by simp)).cell 1 (by omega)
  have q12c := (live_get hL B6 ab (by simp)).cell 2 (by omega)
  have q12d := (live_get hL B6 ab (by simp)).cell 3 (by omega)
  have q13a := (live_get hL Bc c (by simp)).cell 0 (by omega)
  have q13b := (live_get hL Bc c (by simp)).cell 1 (by omega)
  have q13c := (live_get hL Bc c (by simp)).cell 2 (by omega)
  have q13d := (live_get hL Bc c (by simp)).cell 3 (by omega)
  go_wp2_with fail
  clear q12a q12b q12c q12d q13a q13b q13c q13d
  obtain ⟨B14, hBx⟩ : ∃ B, W11.heap.size = B := ⟨_, rfl⟩
  obtain ⟨V14, hVx⟩ : ∃ V, W11.alloc (.cells #[.int .u64 (bc 0), .int .u64 (bc 1), .int .u64 (bc 2), .int .u64 (bc 3)] 24) = V := ⟨_, rfl⟩
  rw [hBx, hVx] at hL
  rw [hBx, hVx]
  clear hBx hVx
  refine (add_c vab hc Xh4.out Xg4.out _).mono ?_
  rintro e W15 ⟨rfl, hB⟩
  have hL2 := live_alloc (live_below hL hB) x
  clear hB hL
  have hL := hL2
  clear hL2
  have q16a := (live_get hL Ba a (by simp)).cell 0 (by omega)
  have q16b := (live_get hL Ba a (by simp)).cell 1 (by omega)
  have q16c := (live_get hL Ba a (by simp)).cell 2 (by omega)
  have q16d := (live_get hL Ba a (by simp)).cell 3 (by omega)
  have q17a := (live_get hL B14 bc (by simp)).cell 0 (by omega)
  have q17b := (live_get hL B14 bc (by simp)).cell 1 (by omega)
  have q17c := (live_get hL B14 bc (by simp)).cell 2 (by omega)
  have q17d := (live_get hL B14 bc (by simp)).cell 3 (by omega)
  go_wp2_with fail
  clear q16a q16b q16c q16d q17a q17b q17c q17d
  obtain ⟨B18, hBx⟩ : ∃ B, W15.heap.size = B := ⟨_, rfl⟩
  obtain ⟨V18, hVx⟩ : ∃ V, W15.alloc (.cells #[.int .u64 (x 0), .int .u64 (x 1), .int .u64 (x 2), .int .u64 (x 3)] 24) = V := ⟨_, rfl⟩
  rw [hBx, hVx] at hL
  rw [hBx, hVx]
  clear hBx hVx
  refine (add_c ha vbc Xh5.out Xg5.out _).mono ?_
  rintro e W19 ⟨rfl, hB⟩
  have hL2 := live_alloc (live_below hL hB) y
  clear hB hL
  have hL := hL2
  clear hL2
  have q20a := (live_get hL B6 ab (by simp)).cell 0 (by omega)
  have q20b := (live_get hL B6 ab (by simp)).cell 1 (by omega)
  have q20c := (live_get hL B6 ab (by simp)).cell 2 (by omega)
  have q20d := (live_get hL B6 ab (by simp)).cell 3 (by omega)
  have q21a := (live_get hL Bb b (by simp)).cell 0 (by omega)
  have q21b := (live_get hL Bb b (by simp)).cell 1 (by omega)
  have q21c := (live_get hL Bb b (by simp)).cell 2 (by omega)
  have q21d := (live_get hL Bb b (by simp)).cell 3 (by omega)
  go_wp2_with fail
  clear q20a q20b q20c q20d q21a q21b q21c q21d
  obtain ⟨B22, hBx⟩ : ∃ B, W19.heap.size = B := ⟨_, rfl⟩
  obtain ⟨V22, hVx⟩ : ∃ V, W19.alloc (.cells #[.int .u64 (y 0), .int .u64 (y 1), .int .u64 (y 2), .int .u64 (y 3)] 24) = V := ⟨_, rfl⟩
  rw [hBx, hVx] at hL
  rw [hBx, hVx]
  clear hBx hVx
  refine (sub_c vab hb Xh6.out Xg6.out _).mono ?_
  rintro e W23 ⟨rfl, hB⟩
  have hL2 := live_alloc (live_below hL hB) back
  clear hB hL
  have hL := hL2
  clear hL2
  have q24a := (live_get hL B6 ab (by simp)).cell 0 (by omega)
  have q24b := (live_get hL B6 ab (by simp)).cell 1 (by omega)
  have q24c := (live_get hL B6 ab (by simp)).cell 2 (by omega)
  have q24d := (live_get hL B6 ab (by simp)).cell 3 (by omega)
  have q25a := (live_get hL B10 ba (by simp)).cell 0 (by omega)
  have q25b := (live_get hL B10 ba (by simp)).cell 1 (by omega)
  have q25c := (live_get hL B10 ba (by simp)).cell 2 (by omega)
  have q25d := (live_get hL B10 ba (by simp)).cell 3 (by omega)
  have q26a := (live_get hL B18 x (by simp)).cell 0 (by omega)
  have q26b := (live_get hL B18 x (by simp)).cell 1 (by omega)
  have q26c := (live_get hL B18 x (by simp)).cell 2 (by omega)
  have q26d := (live_get hL B18 x (by simp)).cell 3 (by omega)
  have q27a := (live_get hL B22 y (by simp)).cell 0 (by omega)
  have q27b := (live_get hL B22 y (by simp)).cell 1 (by omega)
  have q27c := (live_get hL B22 y (by simp)).cell 2 (by omega)
  have q27d := (live_get hL B22 y (by simp)).cell 3 (by omega)
  have q28a := (live_get hL W23.heap.size back (by simp)).cell 0 (by omega)
  have q28b := (live_get hL W23.heap.size back (by simp)).cell 1 (by omega)
  have q28c := (live_get hL W23.heap.size back (by simp)).cell 2 (by omega)
  have q28d := (live_get hL W23.heap.size back (by simp)).cell 3 (by omega)
  have q29a := (live_get hL Ba a (by simp)).cell 0 (by omega)
  have q29b := (live_get hL Ba a (by simp)).cell 1 (by omega)
  have q29c := (live_get hL Ba a (by simp)).cell 2 (by omega)
  have q29d := (live_get hL Ba a (by simp)).cell 3 (by omega)
  have q30a := (live_get hL Bb b (by simp)).cell 0 (by omega)
  have q30b := (live_get hL Bb b (by simp)).cell 1 (by omega)
  have q30c := (live_get hL Bb b (by simp)).cell 2 (by omega)
  have q30d := (live_get hL Bb b (by simp)).cell 3 (by omega)
  go_wp2_with fail
  clear q24a q24b q24c q24d q25a q25b q25c q25d q26a q26b q26c q26d q27a q27b q27c q27d q28a q28b q28c q28d q29a q29b q29c q29d q30a q30b q30c q30d
  obtain ⟨B31, hBx⟩ : ∃ B, W23.heap.size = B := ⟨_, rfl⟩
  obtain ⟨V31, hVx⟩ : ∃ V, W23.alloc (.cells #[.int .u64 (back 0), .int .u64 (back 1), .int .u64 (back 2), .int .u64 (back 3)] 24) = V := ⟨_, rfl⟩
  rw [hBx, hVx] at hL
  rw [hBx, hVx]
  clear hBx hVx
  refine (mul_c ha hb Xh7.out Xg7.out _).mono ?_
  rintro e W32 ⟨rfl, hB⟩
  have hL2 := live_alloc (live_below hL hB) p
  clear hB hL
  have hL := hL2
  clear hL2
  have q33a := (live_get hL Bb b (by simp)).cell 0 (by omega)
  have q33b := (live_get hL Bb b (by simp)).cell 1 (by omega)
  have q33c := (live_get hL Bb b (by simp)).cell 2 (by omega)
  have q33d := (live_get hL Bb b (by simp)).cell 3 (by omega)
  have q34a := (live_get hL Ba a (by simp)).cell 0 (by omega)
  have q34b := (live_get hL Ba a (by simp)).cell 1 (by omega)
  have q34c := (live_get hL Ba a (by simp)).cell 2 (by omega)
  have q34d := (live_get hL Ba a (by simp)).cell 3 (by omega)
  go_wp2_with fail
  clear q33a q33b q33c q33d q34a q34b q34c q34d
  obtain ⟨B35, hBx⟩ : ∃ B, W32.heap.size = B := ⟨_, rfl⟩
  obtain ⟨V35, hVx⟩ : ∃ V, W32.alloc (.cells #[.int .u64 (p 0), .int .u64 (p 1), .int .u64 (p 2), .int .u64 (p 3)] 24) = V := ⟨_, rfl⟩
  rw [hBx, hVx] at hL
  rw [hBx, hVx]
  clear hBx hVx
  refine (mul_c hb ha Xh8.out Xg8.out _).mono ?_
  rintro e W36 ⟨rfl, hB⟩
  have hL2 := live_alloc (live_below hL hB) q
  clear hB hL
  have hL := hL2
  clear hL2
  have q37a := (live_get hL B35 p (by simp)).cell 0 (by omega)
  have q37b := (live_get hL B35 p (by simp)).cell 1 (by omega)
  have q37c := (live_get hL B35 p (by simp)).cell 2 (by omega)
  have q37d := (live_get hL B35 p (by simp)).cell 3 (by omega)
  have q38a := (live_get hL Bc c (by simp)).cell 0 (by omega)
  have q38b := (live_get hL Bc c (by simp)).cell 1 (by omega)
  have q38c := (live_get hL Bc c (by simp)).cell 2 (by omega)
  have q38d := (live_get hL Bc c (by simp)).cell 3 (by omega)
  go_wp2_with fail
  clear q37a q37b q37c q37d q38a q38b q38c q38d
  obtain ⟨B39, hBx⟩ : ∃ B, W36.heap.size = B := ⟨_, rfl⟩
  obtain ⟨V39, hVx⟩ : ∃ V, W36.alloc (.cells #[.int .u64 (q 0), .int .u64 (q 1), .int .u64 (q 2), .int .u64 (q 3)] 24) = V := ⟨_, rfl⟩
  rw [hBx, hVx] at hL
  rw [hBx, hVx]
  clear hBx hVx
  refine (mul_c vp hc Xh9.out Xg9.out _).mono ?_
  rintro e W40 ⟨rfl, hB⟩
  have hL2 := live_alloc (live_below hL hB) pc
  clear hB hL
  have hL := hL2
  clear hL2
  have q41a := (live_get hL Bb b (by simp)).cell 0 (by omega)
  have q41b := (live_get hL Bb b (by simp)).cell 1 (by omega)
  have q41c := (live_get hL Bb b (by simp)).cell 2 (by omega)
  have q41d := (live_get hL Bb b (by simp)).cell 3 (by omega)
  have q42a := (live_get hL Bc c (by simp)).cell 0 (by omega)
  have q42b := (live_get hL Bc c (by simp)).cell 1 (by omega)
  have q42c := (live_get hL Bc c (by simp)).cell 2 (by omega)
  have q42d := (live_get hL Bc c (by simp)).cell 3 (by omega)
  go_wp2_with fail
  clear q41a q41b q41c q41d q42a q42b q42c q42d
  obtain ⟨B43, hBx⟩ : ∃ B, W40.heap.size = B := ⟨_, rfl⟩
  obtain ⟨V43, hVx⟩ : ∃ V, W40.alloc (.cells #[.int .u64 (pc 0), .int .u64 (pc 1), .int .u64 (pc 2), .int .u64 (pc 3)] 24) = V := ⟨_, rfl⟩
  rw [hBx, hVx] at hL
  rw [hBx, hVx]
  clear hBx hVx
  refine (mul_c hb hc Xh10.out Xg10.out _).mono ?_
  rintro e W44 ⟨rfl, hB⟩
  have hL2 := live_alloc (live_below hL hB) b1
  clear hB hL
  have hL := hL2
  clear hL2
  have q45a := (live_get hL Ba a (by simp)).cell 0 (by omega)
  have q45b := (live_get hL Ba a (by simp)).cell 1 (by omega)
  have q45c := (live_get hL Ba a (by simp)).cell 2 (by omega)
  have q45d := (live_get hL Ba a (by simp)).cell 3 (by omega)
  have q46a := (live_get hL W44.heap.size b1 (by simp)).cell 0 (by omega)
  have q46b := (live_get hL W44.heap.size b1 (by simp)).cell 1 (by omega)
  have q46c := (live_get hL W44.heap.size b1 (by simp)).cell 2 (by omega)
  have q46d := (live_get hL W44.heap.size b1 (by simp)).cell 3 (by omega)
  go_wp2_with fail
  clear q45a q45b q45c q45d q46a q46b q46c q46d
  obtain ⟨B47, hBx⟩ : ∃ B, W44.heap.size = B := ⟨_, rfl⟩
  obtain ⟨V47, hVx⟩ : ∃ V, W44.alloc (.cells #[.int .u64 (b1 0), .int .u64 (b1 1), .int .u64 (b1 2), .int .u64 (b1 3)] 24) = V := ⟨_, rfl⟩
  rw [hBx, hVx] at hL
  rw [hBx, hVx]
  clear hBx hVx
  refine (mul_c ha vb1 Xh11.out Xg11.out _).mono ?_
  rintro e W48 ⟨rfl, hB⟩
  have hL2 := live_alloc (live_below hL hB) a1
  clear hB hL
  have hL := hL2
  clear hL2
  have q49a := (live_get hL Ba a (by simp)).cell 0 (by omega)
  have q49b := (live_get hL Ba a (by simp)).cell 1 (by omega)
  have q49c := (live_get hL Ba a (by simp)).cell 2 (by omega)
  have q49d := (live_get hL Ba a (by simp)).cell 3 (by omega)
  have q50a := (live_get hL B14 bc (by simp)).cell 0 (by omega)
  have q50b := (live_get hL B14 bc (by simp)).cell 1 (by omega)
  have q50c := (live_get hL B14 bc (by simp)).cell 2 (by omega)
  have q50d := (live_get hL B14 bc (by simp)).cell 3 (by omega)
  go_wp2_with fail
  clear q49a q49b q49c q49d q50a q50b q50c q50d
  obtain ⟨B51, hBx⟩ : ∃ B, W48.heap.size = B := ⟨_, rfl⟩
  obtain ⟨V51, hVx⟩ : ∃ V, W48.alloc (.cells #[.int .u64 (a1 0), .int .u64 (a1 1), .int .u64 (a1 2), .int .u64 (a1 3)] 24) = V := ⟨_, rfl⟩
  rw [hBx, hVx] at hL
  rw [hBx, hVx]
  clear hBx hVx
  refine (mul_c ha vbc Xh12.out Xg12.out _).mono ?_
  rintro e W52 ⟨rfl, hB⟩
  have hL2 := live_alloc (live_below hL hB) s
  clear hB hL
  have hL := hL2
  clear hL2
  have q53a := (live_get hL Ba a (by simp)).cell 0 (by omega)
  have q53b := (live_get hL Ba a (by simp)).cell 1 (by omega)
  have q53c := (live_get hL Ba a (by simp)).cell 2 (by omega)
  have q53d := (live_get hL Ba a (by simp)).cell 3 (by omega)
  have q54a := (live_get hL Bc c (by simp)).cell 0 (by omega)
  have q54b := (live_get hL Bc c (by simp)).cell 1 (by omega)
  have q54c := (live_get hL Bc c (by simp)).cell 2 (by omega)
  have q54d := (live_get hL Bc c (by simp)).cell 3 (by omega)
  go_wp2_with fail
  clear q53a q53b q53c q53d q54a q54b q54c q54d
  obtain ⟨B55, hBx⟩ : ∃ B, W52.heap.size = B := ⟨_, rfl⟩
  obtain ⟨V55, hVx⟩ : ∃ V, W52.alloc (.cells #[.int .u64 (s 0), .int .u64 (s 1), .int .u64 (s 2), .int .u64 (s 3)] 24) = V := ⟨_, rfl⟩
  rw [hBx, hVx] at hL
  rw [hBx, hVx]
  clear hBx hVx
  refine (mul_c ha hc Xh13.out Xg13.out _).mono ?_
  rintro e W56 ⟨rfl, hB⟩
  have hL2 := live_alloc (live_below hL hB) ac
  clear hB hL
  have hL := hL2
  clear hL2
  have q57a := (live_get hL B35 p (by simp)).cell 0 (by omega)
  have q57b := (live_get hL B35 p (by simp)).cell 1 (by omega)
  have q57c := (live_get hL B35 p (by simp)).cell 2 (by omega)
  have q57d := (live_get hL B35 p (by simp)).cell 3 (by omega)
  have q58a := (live_get hL W56.heap.size ac (by simp)).cell 0 (by omega)
  have q58b := (live_get hL W56.heap.size ac (by simp)).cell 1 (by omega)
  have q58c := (live_get hL W56.heap.size ac (by simp)).cell 2 (by omega)
  have q58d := (live_get hL W56.heap.size ac (by simp)).cell 3 (by omega)
  go_wp2_with fail
  clear q57a q57b q57c q57d q58a q58b q58c q58d
  obtain ⟨B59, hBx⟩ : ∃ B, W56.heap.size = B := ⟨_, rfl⟩
  obtain ⟨V59, hVx⟩ : ∃ V, W56.alloc (.cells #[.int .u64 (ac 0), .int .u64 (ac 1), .int .u64 (ac 2), .int .u64 (ac 3)] 24) = V := ⟨_, rfl⟩
  rw [hBx, hVx] at hL
  rw [hBx, hVx]
  clear hBx hVx
  refine (add_c vp vac Xh14.out Xg14.out _).mono ?_
  rintro e W60 ⟨rfl, hB⟩
  have hL2 := live_alloc (live_below hL hB) t
  clear hB hL
  have hL := hL2
  clear hL2
  go_wp2_with fail
  obtain ⟨B61, hBx⟩ : ∃ B, W60.heap.size = B := ⟨_, rfl⟩
  obtain ⟨V61, hVx⟩ : ∃ V, W60.alloc (.cells #[.int .u64 (t 0), .int .u64 (t 1), .int .u64 (t 2), .int .u64 (t 3)] 24) = V := ⟨_, rfl⟩
  rw [hBx, hVx] at hL
  rw [hBx, hVx]
  clear hBx hVx
  refine Code.wp_mono ?_ (ring_r17 w B61 B59 B55 B51 B47 B43 B39 B35 B31 B22 B18 B14 B10 B6 Bc Bb Ba a b c ab ba bc x y back p q pc b1 a1 s ac t one minus neg nul o1 om oab oba obc ox oy oback op oq opc ob1 oa1 os oac ot ominus oneg _ hL C1 C1m)
  rintro e a' W62 ⟨rfl, B62, rfl, hL2⟩
  clear hL
  have hL := hL2
  clear hL2
  go_wp2_with fail
  refine Code.wp_mono ?_ (ring_r18 w B62 B61 B59 B55 B51 B47 B43 B39 B35 B31 B22 B18 B14 B10 B6 Bc Bb Ba a b c ab ba bc x y back p q pc b1 a1 s ac t one minus neg nul o1 om oab oba obc ox oy oback op oq opc ob1 oa1 os oac ot ominus oneg _ hL C2 C2m)
  rintro e a' W63 ⟨rfl, B63, rfl, hL2⟩
  clear hL
  have hL := hL2
  clear hL2
  have q64a := (live_get hL Ba a (by simp)).cell 0 (by omega)
  have q64b := (live_get hL Ba a (by simp)).cell 1 (by omega)
  have q64c := (live_get hL Ba a (by simp)).cell 2 (by omega)
  have q64d := (live_get hL Ba a (by simp)).cell 3 (by omega)
  go_wp2_with fail
  clear q64a q64b q64c q64d
  refine (neg_c ha Xh15.out Xg15.out _).mono ?_
  rintro e W65 ⟨rfl, hB⟩
  have hL2 := live_alloc (live_below hL hB) neg
  clear hB hL
  have hL := hL2
  clear hL2
  have q66a := (live_get hL Ba a (by simp)).cell 0 (by omega)
  have q66b := (live_get hL Ba a (by simp)).cell 1 (by omega)
  have q66c := (live_get hL Ba a (by simp)).cell 2 (by omega)
  have q66d := (live_get hL Ba a (by simp)).cell 3 (by omega)
  go_wp2_with fail
  clear q66a q66b q66c q66d
  obtain ⟨B67, hBx⟩ : ∃ B, W65.heap.size = B := ⟨_, rfl⟩
  obtain ⟨V67, hVx⟩ : ∃ V, W65.alloc (.cells #[.int .u64 (neg 0), .int .u64 (neg 1), .int .u64 (neg 2), .int .u64 (neg 3)] 24) = V := ⟨_, rfl⟩
  rw [hBx, hVx] at hL
  rw [hBx, hVx]
  clear hBx hVx
  refine (C3 _).mono ?_
  rintro e W68 ⟨rfl, hB⟩
  have hL2 := live_alloc (live_below hL hB) nul
  clear hB hL
  have hL := hL2
  clear hL2
  have q69a := (live_get hL B35 p (by simp)).cell 0 (by omega)
  have q69b := (live_get hL B35 p (by simp)).cell 1 (by omega)
  have q69c := (live_get hL B35 p (by simp)).cell 2 (by omega)
  have q69d := (live_get hL B35 p (by simp)).cell 3 (by omega)
  have q70a := (live_get hL B39 q (by simp)).cell 0 (by omega)
  have q70b := (live_get hL B39 q (by simp)).cell 1 (by omega)
  have q70c := (live_get hL B39 q (by simp)).cell 2 (by omega)
  have q70d := (live_get hL B39 q (by simp)).cell 3 (by omega)
  have q71a := (live_get hL B43 pc (by simp)).cell 0 (by omega)
  have q71b := (live_get hL B43 pc (by simp)).cell 1 (by omega)
  have q71c := (live_get hL B43 pc (by simp)).cell 2 (by omega)
  have q71d := (live_get hL B43 pc (by simp)).cell 3 (by omega)
  have q72a := (live_get hL B51 a1 (by simp)).cell 0 (by omega)
  have q72b := (live_get hL B51 a1 (by simp)).cell 1 (by omega)
  have q72c := (live_get hL B51 a1 (by simp)).cell 2 (by omega)
  have q72d := (live_get hL B51 a1 (by simp)).cell 3 (by omega)
  have q73a := (live_get hL B55 s (by simp)).cell 0 (by omega)
  have q73b := (live_get hL B55 s (by simp)).cell 1 (by omega)
  have q73c := (live_get hL B55 s (by simp)).cell 2 (by omega)
  have q73d := (live_get hL B55 s (by simp)).cell 3 (by omega)
  have q74a := (live_get hL B61 t (by simp)).cell 0 (by omega)
  have q74b := (live_get hL B61 t (by simp)).cell 1 (by omega)
  have q74c := (live_get hL B61 t (by simp)).cell 2 (by omega)
  have q74d := (live_get hL B61 t (by simp)).cell 3 (by omega)
  have q75a := (live_get hL B62 one (by simp)).cell 0 (by omega)
  have q75b := (live_get hL B62 one (by simp)).cell 1 (by omega)
  have q75c := (live_get hL B62 one (by simp)).cell 2 (by omega)
  have q75d := (live_get hL B62 one (by simp)).cell 3 (by omega)
  have q76a := (live_get hL Ba a (by simp)).cell 0 (by omega)
  have q76b := (live_get hL Ba a (by simp)).cell 1 (by omega)
  have q76c := (live_get hL Ba a (by simp)).cell 2 (by omega)
  have q76d := (live_get hL Ba a (by simp)).cell 3 (by omega)
  have q77a := (live_get hL B63 minus (by simp)).cell 0 (by omega)
  have q77b := (live_get hL B63 minus (by simp)).cell 1 (by omega)
  have q77c := (live_get hL B63 minus (by simp)).cell 2 (by omega)
  have q77d := (live_get hL B63 minus (by simp)).cell 3 (by omega)
  have q78a := (live_get hL B67 neg (by simp)).cell 0 (by omega)
  have q78b := (live_get hL B67 neg (by simp)).cell 1 (by omega)
  have q78c := (live_get hL B67 neg (by simp)).cell 2 (by omega)
  have q78d := (live_get hL B67 neg (by simp)).cell 3 (by omega)
  have q79a := (live_get hL W68.heap.size nul (by simp)).cell 0 (by omega)
  have q79b := (live_get hL W68.heap.size nul (by simp)).cell 1 (by omega)
  have q79c := (live_get hL W68.heap.size nul (by simp)).cell 2 (by omega)
  have q79d := (live_get hL W68.heap.size nul (by simp)).cell 3 (by omega)
  go_wp2_with fail
  clear q69a q69b q69c q69d q70a q70b q70c q70d q71a q71b q71c q71d q72a q72b q72c q72d q73a q73b q73c q73d q74a q74b q74c q74d q75a q75b q75c q75d q76a q76b q76c q76d q77a q77b q77c q77d q78a q78b q78c q78d q79a q79b q79c q79d
  obtain ⟨B80, hBx⟩ : ∃ B, W68.heap.size = B := ⟨_, rfl⟩
  obtain ⟨V80, hVx⟩ : ∃ V, W68.alloc (.cells #[.int .u64 (nul 0), .int .u64 (nul 1), .int .u64 (nul 2), .int .u64 (nul 3)] 24) = V := ⟨_, rfl⟩
  rw [hBx, hVx] at hL
  rw [hBx, hVx]
  clear hBx hVx
  refine (wakes_x _).mono ?_
  rintro e W81 ⟨rfl, hB⟩
  have hL2 := live_below hL hB
  clear hB hL
  have hL := hL2
  clear hL2
  go_wp2
  go_ret
  exact ⟨rfl, hL.2⟩

end Go.Proofs.Ytmlbppljencdnaa
