/- Contracts of the document's own functions of layer 2: Neg, Add, Sub. -/
import Derived.Test.YtecgclkjglkkbaaP4
namespace Go.Proofs.Ytecgclkjglkkbaa
open Go Go.RowKit Go.Shelf
set_option linter.unusedSimpArgs false
set_option linter.unusedVariables false

theorem digits_c {a d : Nat → Nat} (ha : Wds a) (h : digR a = d) (w : World) : Calls Try.prog 51 #[.agg #[.int .u64 (a 0), .int .u64 (a 1), .int .u64 (a 2), .int .u64 (a 3)]] w fun ee w' => ee = .returned (.agg #[.int .u64 (d 0), .int .u64 (d 1), .int .u64 (d 2), .int .u64 (d 3), .int .u64 (d 4), .int .u64 (d 5), .int .u64 (d 6), .int .u64 (d 7)]) ∧ Below w.heap.size w w' := by
  subst h; exact digits_r a ha w
theorem not_c {d e : Nat → Nat} (hd : Digs d) (h : notR d = e) (w : World) : Calls Try.prog 54 #[.agg #[.int .u64 (d 0), .int .u64 (d 1), .int .u64 (d 2), .int .u64 (d 3), .int .u64 (d 4), .int .u64 (d 5), .int .u64 (d 6), .int .u64 (d 7)]] w fun ee w' => ee = .returned (.agg #[.int .u64 (e 0), .int .u64 (e 1), .int .u64 (e 2), .int .u64 (e 3), .int .u64 (e 4), .int .u64 (e 5), .int .u64 (e 6), .int .u64 (e 7)]) ∧ Below w.heap.size w w' := by
  subst h; exact not_r d hd w
theorem plus_c {d e f : Nat → Nat} {c : Int} (n : Nat) (hc : c = n) (hd : Digs d) (he : Digs e) (hn : n ≤ 1) (h : plusR d e n = f) (w : World) : Calls Try.prog 50 #[.agg #[.int .u64 (d 0), .int .u64 (d 1), .int .u64 (d 2), .int .u64 (d 3), .int .u64 (d 4), .int .u64 (d 5), .int .u64 (d 6), .int .u64 (d 7)], .agg #[.int .u64 (e 0), .int .u64 (e 1), .int .u64 (e 2), .int .u64 (e 3), .int .u64 (e 4), .int .u64 (e 5), .int .u64 (e 6), .int .u64 (e 7)], .int .u64 c] w fun ee w' => ee = .returned (.agg #[.int .u64 (f 0), .int .u64 (f 1), .int .u64 (f 2), .int .u64 (f 3), .int .u64 (f 4), .int .u64 (f 5), .int .u64 (f 6), .int .u64 (f 7)]) ∧ Below w.heap.size w w' := by
  subst h hc; exact plus_r d e n hd he hn w
theorem plus0_c {d e f : Nat → Nat} (hd : Digs d) (he : Digs e) (h : plusR d e 0 = f) (w : World) : Calls Try.prog 50 #[.agg #[.int .u64 (d 0), .int .u64 (d 1), .int .u64 (d 2), .int .u64 (d 3), .int .u64 (d 4), .int .u64 (d 5), .int .u64 (d 6), .int .u64 (d 7)], .agg #[.int .u64 (e 0), .int .u64 (e 1), .int .u64 (e 2), .int .u64 (e 3), .int .u64 (e 4), .int .u64 (e 5), .int .u64 (e 6), .int .u64 (e 7)], .int .u64 0] w fun ee w' => ee = .returned (.agg #[.int .u64 (f 0), .int .u64 (f 1), .int .u64 (f 2), .int .u64 (f 3), .int .u64 (f 4), .int .u64 (f 5), .int .u64 (f 6), .int .u64 (f 7)]) ∧ Below w.heap.size w w' := by
  subst h; exact plus_r d e 0 hd he (by omega) w
theorem plus1_c {d e f : Nat → Nat} (hd : Digs d) (he : Digs e) (h : plusR d e 1 = f) (w : World) : Calls Try.prog 50 #[.agg #[.int .u64 (d 0), .int .u64 (d 1), .int .u64 (d 2), .int .u64 (d 3), .int .u64 (d 4), .int .u64 (d 5), .int .u64 (d 6), .int .u64 (d 7)], .agg #[.int .u64 (e 0), .int .u64 (e 1), .int .u64 (e 2), .int .u64 (e 3), .int .u64 (e 4), .int .u64 (e 5), .int .u64 (e 6), .int .u64 (e 7)], .int .u64 1] w fun ee w' => ee = .returned (.agg #[.int .u64 (f 0), .int .u64 (f 1), .int .u64 (f 2), .int .u64 (f 3), .int .u64 (f 4), .int .u64 (f 5), .int .u64 (f 6), .int .u64 (f 7)]) ∧ Below w.heap.size w w' := by
  subst h; exact plus_r d e 1 hd he (by omega) w
theorem plus1z_c {d f : Nat → Nat} (hd : Digs d) (h : plusR d Zr 1 = f) (w : World) : Calls Try.prog 50 #[.agg #[.int .u64 (d 0), .int .u64 (d 1), .int .u64 (d 2), .int .u64 (d 3), .int .u64 (d 4), .int .u64 (d 5), .int .u64 (d 6), .int .u64 (d 7)], .agg #[.int .u64 0, .int .u64 0, .int .u64 0, .int .u64 0, .int .u64 0, .int .u64 0, .int .u64 0, .int .u64 0], .int .u64 1] w fun ee w' => ee = .returned (.agg #[.int .u64 (f 0), .int .u64 (f 1), .int .u64 (f 2), .int .u64 (f 3), .int .u64 (f 4), .int .u64 (f 5), .int .u64 (f 6), .int .u64 (f 7)]) ∧ Below w.heap.size w w' := by
  subst h; exact plus_r d Zr 1 hd zr_digs (by omega) w
theorem wide_c {d r : Nat → Nat} (hd : Digs d) (h : widR d = r) (w : World) : Calls Try.prog 49 #[.agg #[.int .u64 (d 0), .int .u64 (d 1), .int .u64 (d 2), .int .u64 (d 3), .int .u64 (d 4), .int .u64 (d 5), .int .u64 (d 6), .int .u64 (d 7)]] w fun ee w' => ee = .returned (.agg #[.int .u64 (r 0), .int .u64 (r 1), .int .u64 (r 2), .int .u64 (r 3)]) ∧ Below w.heap.size w w' := by
  subst h; exact wide_r d hd w
theorem low_c {a : Nat → Nat} {q : Bool} (ha : Wds a) (h : lowB a = q) (w : World) : Calls Try.prog 52 #[.agg #[.int .u64 (a 0), .int .u64 (a 1), .int .u64 (a 2), .int .u64 (a 3)]] w fun ee w' => ee = .returned (.bool q) ∧ Below w.heap.size w w' := by
  subst h; exact low_r a ha w

def o17_2_0 : Oper := { dst := some 11, op := Go.Op.load 24 (Go.Operand.tmp 4), type := 24, pos := "ref.go:63", after := #[], guard := none }
def o17_2_1 : Oper := { dst := some 12, op := Go.Op.load 24 (Go.Operand.tmp 1), type := 24, pos := "ref.go:63", after := #[], guard := none }
def o17_2_2 : Oper := { dst := some 13, op := Go.Op.call { callee := Go.Callee.value (Go.Operand.func 52), args := #[Go.Operand.tmp 12], argTypes := #[24] }, type := 4, pos := "ref.go:63", after := #[{ on := 1, ground := Go.Ground.data }], guard := none }
def o17_2_3 : Oper := { dst := some 14, op := Go.Op.move (Go.Operand.tmp 13), type := 4, pos := "ref.go:63", after := #[{ on := 2, ground := Go.Ground.data }, { on := 2, ground := Go.Ground.chain }], guard := none }
def o17_2_4 : Oper := { dst := some 15, op := Go.Op.load 24 (Go.Operand.tmp 4), type := 24, pos := "ref.go:63", after := #[{ on := 3, ground := Go.Ground.guard }], guard := some (3, true) }
def o17_2_5 : Oper := { dst := some 16, op := Go.Op.call { callee := Go.Callee.value (Go.Operand.func 52), args := #[Go.Operand.tmp 15], argTypes := #[24] }, type := 4, pos := "ref.go:63", after := #[{ on := 4, ground := Go.Ground.data }, { on := 3, ground := Go.Ground.chain }, { on := 3, ground := Go.Ground.guard }], guard := some (3, true) }
def o17_2_6 : Oper := { dst := some 17, op := Go.Op.pick (Go.Operand.tmp 14) (Go.Operand.tmp 16) (Go.Operand.const (Go.Value.bool false)), type := 4, pos := "ref.go:63", after := #[{ on := 3, ground := Go.Ground.data }, { on := 5, ground := Go.Ground.data }, { on := 7, ground := Go.Ground.gcOnly Go.Departure.lateStores }], guard := none }
def o17_2_7 : Oper := { dst := none, op := Go.Op.store 24 (Go.Operand.tmp 2) (Go.Operand.tmp 11), type := 0, pos := "ref.go:63", after := #[{ on := 0, ground := Go.Ground.data }, { on := 5, ground := Go.Ground.chain }, { on := 0, ground := Go.Ground.phase }, { on := 1, ground := Go.Ground.textOnly Go.Departure.lateStores }, { on := 2, ground := Go.Ground.textOnly Go.Departure.lateStoresUnsure }, { on := 3, ground := Go.Ground.textOnly Go.Departure.lateStores }, { on := 4, ground := Go.Ground.textOnly Go.Departure.lateStores }, { on := 5, ground := Go.Ground.textOnly Go.Departure.lateStoresUnsure }, { on := 6, ground := Go.Ground.textOnly Go.Departure.lateStores }], guard := none }
def o17_2_8 : Oper := { dst := some 3, op := Go.Op.assign (Go.Operand.tmp 17), type := 4, pos := "ref.go:63", after := #[{ on := 6, ground := Go.Ground.data }, { on := 7, ground := Go.Ground.chain }, { on := 0, ground := Go.Ground.phase }, { on := 1, ground := Go.Ground.phase }, { on := 2, ground := Go.Ground.phase }, { on := 3, ground := Go.Ground.phase }, { on := 4, ground := Go.Ground.phase }, { on := 5, ground := Go.Ground.phase }, { on := 6, ground := Go.Ground.phase }, { on := 7, ground := Go.Ground.phase }], guard := none }
attribute [local go_sem] o17_2_0 o17_2_1 o17_2_2 o17_2_3 o17_2_4 o17_2_5 o17_2_6 o17_2_7 o17_2_8
set_option maxRecDepth 100000 in
set_option maxHeartbeats 4000000 in
theorem refneg_t (a d e f r : Nat → Nat) (qr : Bool) (ha : Wds a) (hd : Digs d) (he : Digs e) (hf : Digs f) (hr : Wds r) (h1 : digR a = d) (h2 : notR d = e) (h3 : plusR e Zr 1 = f) (h4 : widR f = r) (h5 : lowB a = true) (h6 : lowB r = qr)  (w : World) :
    Calls Try.prog 17 #[.agg #[.int .u64 (a 0), .int .u64 (a 1), .int .u64 (a 2), .int .u64 (a 3)]] w fun ee w' => ee = .returned (.tuple #[.agg #[.int .u64 (r 0), .int .u64 (r 1), .int .u64 (r 2), .int .u64 (r 3)], .bool qr]) ∧ Below w.heap.size w w' := by
  have Xh1 := Lib.hid h1
  have Xh2 := Lib.hid h2
  have Xh3 := Lib.hid h3
  have Xh4 := Lib.hid h4
  have Xh5 := Lib.hid h5
  have Xh6 := Lib.hid h6
  clear h1 h2 h3 h4 h5 h6
  have hL := lv_nil w
  go_enter Try.func17, Try.ntmps17
  go_wp2_with fail
  obtain ⟨V1, B2, hV3, hB4, hL⟩ := lv_grow hL (Obj.cells #[.int .u64 (a 0), .int .u64 (a 1), .int .u64 (a 2), .int .u64 (a 3)] 24)
  rw [hV3]
  try rw [hB4]
  obtain ⟨V5, B6, hV7, hB8, hL⟩ := lv_grow hL (Obj.cells #[.int .u64 0, .int .u64 0, .int .u64 0, .int .u64 0] 24)
  rw [hV7]
  have hs9 : B2 + 1 = B6 := by rw [← hB8, ← hV3, World.size_alloc, hB4]
  try rw [hs9]
  clear hs9
  clear hV3 hB4 hV7 hB8
  refine (digits_c ha Xh1.out _).mono ?_
  rintro e W10 ⟨rfl, hB⟩
  replace hL := lv_below hL hB
  clear hB
  go_wp2_with fail
  refine (not_c hd Xh2.out _).mono ?_
  rintro e W11 ⟨rfl, hB⟩
  replace hL := lv_below hL hB
  clear hB
  go_wp2_with fail
  refine (plus1z_c he Xh3.out _).mono ?_
  rintro e W12 ⟨rfl, hB⟩
  replace hL := lv_below hL hB
  clear hB
  go_wp2_with fail
  refine (wide_c hf Xh4.out _).mono ?_
  rintro e W13 ⟨rfl, hB⟩
  replace hL := lv_below hL hB
  clear hB
  go_wp2_with fail
  obtain ⟨V14, B15, hV16, hB17, hL⟩ := lv_grow hL (Obj.cells #[.int .u64 (r 0), .int .u64 (r 1), .int .u64 (r 2), .int .u64 (r 3)] 24)
  rw [hV16]
  try rw [hB17]
  clear hV16 hB17
  refine wp_region_held_drew (S := fun W' => Lv w [(B15, Obj.cells #[.int .u64 (r 0), .int .u64 (r 1), .int .u64 (r 2), .int .u64 (r 3)] 24 (0, 0)), (B2, Obj.cells #[.int .u64 (a 0), .int .u64 (a 1), .int .u64 (a 2), .int .u64 (a 3)] 24 (0, 0))] W') (by kernel_rfl) (lv_drew (lv_sub (sk (sd (sk sn))) hL)) (fun hHeld => ?_)
  replace hL := lv_drew hL
  obtain ⟨D18, hD19⟩ : ∃ W0, World.drew V14 = W0 := ⟨_, rfl⟩
  rw [hD19] at hHeld hL ⊢
  clear hD19
  refine tk 0 o17_2_0 (v := ?_) ?_ ?_
  rotate_left
  · intro w hSw
    obtain ⟨k0, k1, k2, k3⟩ := lv_cells4 hSw lm0
    delta o17_2_0
    go_simp
    try with_reducible rfl
  try simp only [Act.put, o17_2_0, List.setIfInBounds_toArray, List.set_cons_zero, List.set_cons_succ]
  refine tk 1 o17_2_1 (v := ?_) ?_ ?_
  rotate_left
  · intro w hSw
    obtain ⟨k0, k1, k2, k3⟩ := lv_cells4 hSw lm1
    delta o17_2_1
    go_simp
    try with_reducible rfl
  try simp only [Act.put, o17_2_1, List.setIfInBounds_toArray, List.set_cons_zero, List.set_cons_succ]
  refine rd1 2 o17_2_2 (fun K hK => ?_)
  delta o17_2_2
  go_simp
  refine (low_c ha Xh5.out _).mono ?_
  rintro e W20 ⟨rfl, hBl⟩
  replace hL := lv_below hL hBl
  clear hBl
  refine hK.out _ _ (lv_sub (sk (sd (sk sn))) hL) (fun hHeld2 => ?_)
  clear hK K hHeld
  have hHeld := hHeld2
  clear hHeld2
  try simp only [Act.put, o17_2_2, List.setIfInBounds_toArray, List.set_cons_zero, List.set_cons_succ]
  refine tk 3 o17_2_3 (v := ?_) ?_ ?_
  rotate_left
  · intro w hSw
    delta o17_2_3
    go_simp
    try with_reducible rfl
  try simp only [Act.put, o17_2_3, List.setIfInBounds_toArray, List.set_cons_zero, List.set_cons_succ]
  refine tk 4 o17_2_4 (v := ?_) ?_ ?_
  rotate_left
  · intro w hSw
    obtain ⟨k0, k1, k2, k3⟩ := lv_cells4 hSw lm0
    delta o17_2_4
    go_simp
    try with_reducible rfl
  try simp only [Act.put, o17_2_4, List.setIfInBounds_toArray, List.set_cons_zero, List.set_cons_succ]
  refine rd1 5 o17_2_5 (fun K hK => ?_)
  delta o17_2_5
  go_simp
  refine (low_c hr Xh6.out _).mono ?_
  rintro e W21 ⟨rfl, hBl⟩
  replace hL := lv_below hL hBl
  clear hBl
  refine hK.out _ _ (lv_sub (sk (sd (sk sn))) hL) (fun hHeld2 => ?_)
  clear hK K hHeld
  have hHeld := hHeld2
  clear hHeld2
  try simp only [Act.put, o17_2_5, List.setIfInBounds_toArray, List.set_cons_zero, List.set_cons_succ]
  refine tk 6 o17_2_6 (v := ?_) ?_ ?_
  rotate_left
  · intro w hSw
    delta o17_2_6
    go_simp
    try with_reducible rfl
  try simp only [Act.put, o17_2_6, List.setIfInBounds_toArray, List.set_cons_zero, List.set_cons_succ]
  refine rd1 7 o17_2_7 (fun K hK => ?_)
  obtain ⟨k0, k1, k2, k3⟩ := lv_cells4 hL lm1
  have z0 := lv_frozen hL lm1 0
  have z1 := lv_frozen hL lm1 1
  have z2 := lv_frozen hL lm1 2
  have z3 := lv_frozen hL lm1 3
  delta o17_2_7
  go_simp
  clear k0 z0 k1 z1 k2 z2 k3 z3
  obtain ⟨V22, hVx, hL2⟩ : ∃ V, (World.setCell (World.setCell (World.setCell (World.setCell W21 ⟨B6, 0, none⟩ (.int .u64 (r 0))) ⟨B6, 1, none⟩ (.int .u64 (r 1))) ⟨B6, 2, none⟩ (.int .u64 (r 2))) ⟨B6, 3, none⟩ (.int .u64 (r 3))) = V ∧ Lv w [(B15, Obj.cells #[.int .u64 (r 0), .int .u64 (r 1), .int .u64 (r 2), .int .u64 (r 3)] 24 (0, 0)), (B6, Obj.cells #[.int .u64 (r 0), .int .u64 (r 1), .int .u64 (r 2), .int .u64 (r 3)] 24 (0, 0)), (B2, Obj.cells #[.int .u64 (a 0), .int .u64 (a 1), .int .u64 (a 2), .int .u64 (a 3)] 24 (0, 0))] V := ⟨_, rfl, lv_store4 [(B15, Obj.cells #[.int .u64 (r 0), .int .u64 (r 1), .int .u64 (r 2), .int .u64 (r 3)] 24 (0, 0))] hL _ _ _ _⟩
  rw [hVx]
  clear hVx hL
  have hL := hL2
  clear hL2
  refine hK.out _ _ (lv_sub (sk (sd (sk sn))) hL) (fun hHeld2 => ?_)
  clear hK K hHeld
  have hHeld := hHeld2
  clear hHeld2
  try simp only [Act.put, o17_2_7, List.setIfInBounds_toArray, List.set_cons_zero, List.set_cons_succ]
  refine tk 8 o17_2_8 (v := ?_) ?_ ?_
  rotate_left
  · intro w hSw
    delta o17_2_8
    go_simp
    try with_reducible rfl
  try simp only [Act.put, o17_2_8, List.setIfInBounds_toArray, List.set_cons_zero, List.set_cons_succ]
  refine wpAnyH_done (by kernel_rfl) ?_ _
  clear hHeld
  go_wp2_with fail
  obtain ⟨k23, k24, k25, k26⟩ := lv_cells4 hL lm1
  refine bodyPost_ret (v := .tuple #[.agg #[.int .u64 (r 0), .int .u64 (r 1), .int .u64 (r 2), .int .u64 (r 3)], .bool qr]) (by simp [results, Try.results17, go_sem, k23, k24, k25, k26]) rfl ⟨rfl, hL.2.2.2⟩

set_option maxRecDepth 100000 in
set_option maxHeartbeats 4000000 in
theorem refneg_f (a d e f r : Nat → Nat) (qr : Bool) (ha : Wds a) (hd : Digs d) (he : Digs e) (hf : Digs f) (hr : Wds r) (h1 : digR a = d) (h2 : notR d = e) (h3 : plusR e Zr 1 = f) (h4 : widR f = r) (h5 : lowB a = false) (h6 : lowB r = qr)  (w : World) :
    Calls Try.prog 17 #[.agg #[.int .u64 (a 0), .int .u64 (a 1), .int .u64 (a 2), .int .u64 (a 3)]] w fun ee w' => ee = .returned (.tuple #[.agg #[.int .u64 (r 0), .int .u64 (r 1), .int .u64 (r 2), .int .u64 (r 3)], .bool false]) ∧ Below w.heap.size w w' := by
  have Xh1 := Lib.hid h1
  have Xh2 := Lib.hid h2
  have Xh3 := Lib.hid h3
  have Xh4 := Lib.hid h4
  have Xh5 := Lib.hid h5
  have Xh6 := Lib.hid h6
  clear h1 h2 h3 h4 h5 h6
  have hL := lv_nil w
  go_enter Try.func17, Try.ntmps17
  go_wp2_with fail
  obtain ⟨V1, B2, hV3, hB4, hL⟩ := lv_grow hL (Obj.cells #[.int .u64 (a 0), .int .u64 (a 1), .int .u64 (a 2), .int .u64 (a 3)] 24)
  rw [hV3]
  try rw [hB4]
  obtain ⟨V5, B6, hV7, hB8, hL⟩ := lv_grow hL (Obj.cells #[.int .u64 0, .int .u64 0, .int .u64 0, .int .u64 0] 24)
  rw [hV7]
  have hs9 : B2 + 1 = B6 := by rw [← hB8, ← hV3, World.size_alloc, hB4]
  try rw [hs9]
  clear hs9
  clear hV3 hB4 hV7 hB8
  refine (digits_c ha Xh1.out _).mono ?_
  rintro e W10 ⟨rfl, hB⟩
  replace hL := lv_below hL hB
  clear hB
  go_wp2_with fail
  refine (not_c hd Xh2.out _).mono ?_
  rintro e W11 ⟨rfl, hB⟩
  replace hL := lv_below hL hB
  clear hB
  go_wp2_with fail
  refine (plus1z_c he Xh3.out _).mono ?_
  rintro e W12 ⟨rfl, hB⟩
  replace hL := lv_below hL hB
  clear hB
  go_wp2_with fail
  refine (wide_c hf Xh4.out _).mono ?_
  rintro e W13 ⟨rfl, hB⟩
  replace hL := lv_below hL hB
  clear hB
  go_wp2_with fail
  obtain ⟨V14, B15, hV16, hB17, hL⟩ := lv_grow hL (Obj.cells #[.int .u64 (r 0), .int .u64 (r 1), .int .u64 (r 2), .int .u64 (r 3)] 24)
  rw [hV16]
  try rw [hB17]
  clear hV16 hB17
  refine wp_region_held_drew (S := fun W' => Lv w [(B15, Obj.cells #[.int .u64 (r 0), .int .u64 (r 1), .int .u64 (r 2), .int .u64 (r 3)] 24 (0, 0)), (B2, Obj.cells #[.int .u64 (a 0), .int .u64 (a 1), .int .u64 (a 2), .int .u64 (a 3)] 24 (0, 0))] W') (by kernel_rfl) (lv_drew (lv_sub (sk (sd (sk sn))) hL)) (fun hHeld => ?_)
  replace hL := lv_drew hL
  obtain ⟨D18, hD19⟩ : ∃ W0, World.drew V14 = W0 := ⟨_, rfl⟩
  rw [hD19] at hHeld hL ⊢
  clear hD19
  refine tk 0 o17_2_0 (v := ?_) ?_ ?_
  rotate_left
  · intro w hSw
    obtain ⟨k0, k1, k2, k3⟩ := lv_cells4 hSw lm0
    delta o17_2_0
    go_simp
    try with_reducible rfl
  try simp only [Act.put, o17_2_0, List.setIfInBounds_toArray, List.set_cons_zero, List.set_cons_succ]
  refine tk 1 o17_2_1 (v := ?_) ?_ ?_
  rotate_left
  · intro w hSw
    obtain ⟨k0, k1, k2, k3⟩ := lv_cells4 hSw lm1
    delta o17_2_1
    go_simp
    try with_reducible rfl
  try simp only [Act.put, o17_2_1, List.setIfInBounds_toArray, List.set_cons_zero, List.set_cons_succ]
  refine rd1 2 o17_2_2 (fun K hK => ?_)
  delta o17_2_2
  go_simp
  refine (low_c ha Xh5.out _).mono ?_
  rintro e W20 ⟨rfl, hBl⟩
  replace hL := lv_below hL hBl
  clear hBl
  refine hK.out _ _ (lv_sub (sk (sd (sk sn))) hL) (fun hHeld2 => ?_)
  clear hK K hHeld
  have hHeld := hHeld2
  clear hHeld2
  try simp only [Act.put, o17_2_2, List.setIfInBounds_toArray, List.set_cons_zero, List.set_cons_succ]
  refine tk 3 o17_2_3 (v := ?_) ?_ ?_
  rotate_left
  · intro w hSw
    delta o17_2_3
    go_simp
    try with_reducible rfl
  try simp only [Act.put, o17_2_3, List.setIfInBounds_toArray, List.set_cons_zero, List.set_cons_succ]
  refine tu 4 o17_2_4 ?_
  try simp only [Act.put, o17_2_4, List.setIfInBounds_toArray, List.set_cons_zero, List.set_cons_succ]
  refine rd1 5 o17_2_5 (fun K hK => ?_)
  delta o17_2_5
  go_simp
  refine hK.out _ _ hHeld (fun hHeld2 => ?_)
  clear hK K hHeld
  have hHeld := hHeld2
  clear hHeld2
  try simp only [Act.put, o17_2_5, List.setIfInBounds_toArray, List.set_cons_zero, List.set_cons_succ]
  refine tk 6 o17_2_6 (v := ?_) ?_ ?_
  rotate_left
  · intro w hSw
    delta o17_2_6
    go_simp
    try with_reducible rfl
  try simp only [Act.put, o17_2_6, List.setIfInBounds_toArray, List.set_cons_zero, List.set_cons_succ]
  refine rd1 7 o17_2_7 (fun K hK => ?_)
  obtain ⟨k0, k1, k2, k3⟩ := lv_cells4 hL lm1
  have z0 := lv_frozen hL lm1 0
  have z1 := lv_frozen hL lm1 1
  have z2 := lv_frozen hL lm1 2
  have z3 := lv_frozen hL lm1 3
  delta o17_2_7
  go_simp
  clear k0 z0 k1 z1 k2 z2 k3 z3
  obtain ⟨V21, hVx, hL2⟩ : ∃ V, (World.setCell (World.setCell (World.setCell (World.setCell W20 ⟨B6, 0, none⟩ (.int .u64 (r 0))) ⟨B6, 1, none⟩ (.int .u64 (r 1))) ⟨B6, 2, none⟩ (.int .u64 (r 2))) ⟨B6, 3, none⟩ (.int .u64 (r 3))) = V ∧ Lv w [(B15, Obj.cells #[.int .u64 (r 0), .int .u64 (r 1), .int .u64 (r 2), .int .u64 (r 3)] 24 (0, 0)), (B6, Obj.cells #[.int .u64 (r 0), .int .u64 (r 1), .int .u64 (r 2), .int .u64 (r 3)] 24 (0, 0)), (B2, Obj.cells #[.int .u64 (a 0), .int .u64 (a 1), .int .u64 (a 2), .int .u64 (a 3)] 24 (0, 0))] V := ⟨_, rfl, lv_store4 [(B15, Obj.cells #[.int .u64 (r 0), .int .u64 (r 1), .int .u64 (r 2), .int .u64 (r 3)] 24 (0, 0))] hL _ _ _ _⟩
  rw [hVx]
  clear hVx hL
  have hL := hL2
  clear hL2
  refine hK.out _ _ (lv_sub (sk (sd (sk sn))) hL) (fun hHeld2 => ?_)
  clear hK K hHeld
  have hHeld := hHeld2
  clear hHeld2
  try simp only [Act.put, o17_2_7, List.setIfInBounds_toArray, List.set_cons_zero, List.set_cons_succ]
  refine tk 8 o17_2_8 (v := ?_) ?_ ?_
  rotate_left
  · intro w hSw
    delta o17_2_8
    go_simp
    try with_reducible rfl
  try simp only [Act.put, o17_2_8, List.setIfInBounds_toArray, List.set_cons_zero, List.set_cons_succ]
  refine wpAnyH_done (by kernel_rfl) ?_ _
  clear hHeld
  go_wp2_with fail
  obtain ⟨k22, k23, k24, k25⟩ := lv_cells4 hL lm1
  refine bodyPost_ret (v := .tuple #[.agg #[.int .u64 (r 0), .int .u64 (r 1), .int .u64 (r 2), .int .u64 (r 3)], .bool false]) (by simp [results, Try.results17, go_sem, k22, k23, k24, k25]) rfl ⟨rfl, hL.2.2.2⟩

def o11_1_0 : Oper := { dst := some 7, op := Go.Op.load 24 (Go.Operand.tmp 2), type := 24, pos := "ref.go:68", after := #[], guard := none }
def o11_1_1 : Oper := { dst := some 8, op := Go.Op.call { callee := Go.Callee.value (Go.Operand.func 51), args := #[Go.Operand.tmp 7], argTypes := #[24] }, type := 54, pos := "ref.go:68", after := #[{ on := 0, ground := Go.Ground.data }], guard := none }
def o11_1_2 : Oper := { dst := some 9, op := Go.Op.load 24 (Go.Operand.tmp 3), type := 24, pos := "ref.go:68", after := #[], guard := none }
def o11_1_3 : Oper := { dst := some 10, op := Go.Op.call { callee := Go.Callee.value (Go.Operand.func 51), args := #[Go.Operand.tmp 9], argTypes := #[24] }, type := 54, pos := "ref.go:68", after := #[{ on := 2, ground := Go.Ground.data }, { on := 1, ground := Go.Ground.chain }], guard := none }
def o11_1_4 : Oper := { dst := some 11, op := Go.Op.call { callee := Go.Callee.value (Go.Operand.func 50), args := #[Go.Operand.tmp 8, Go.Operand.tmp 10, Go.Operand.const (Go.Value.int Go.IntKind.u64 0)], argTypes := #[54, 54, 22] }, type := 54, pos := "ref.go:68", after := #[{ on := 1, ground := Go.Ground.data }, { on := 3, ground := Go.Ground.data }, { on := 3, ground := Go.Ground.chain }], guard := none }
def o11_1_5 : Oper := { dst := some 12, op := Go.Op.call { callee := Go.Callee.value (Go.Operand.func 49), args := #[Go.Operand.tmp 11], argTypes := #[54] }, type := 24, pos := "ref.go:68", after := #[{ on := 4, ground := Go.Ground.data }, { on := 4, ground := Go.Ground.chain }], guard := none }
def o11_1_6 : Oper := { dst := some 6, op := Go.Op.alloc 24, type := 0, pos := "ref.go:68", after := #[], guard := none }
def o11_1_7 : Oper := { dst := none, op := Go.Op.store 24 (Go.Operand.tmp 6) (Go.Operand.tmp 12), type := 0, pos := "ref.go:68", after := #[{ on := 6, ground := Go.Ground.data }, { on := 5, ground := Go.Ground.data }, { on := 5, ground := Go.Ground.chain }, { on := 0, ground := Go.Ground.phase }, { on := 1, ground := Go.Ground.phase }, { on := 2, ground := Go.Ground.phase }, { on := 3, ground := Go.Ground.phase }, { on := 4, ground := Go.Ground.phase }, { on := 5, ground := Go.Ground.phase }, { on := 6, ground := Go.Ground.phase }], guard := none }
attribute [local go_sem] o11_1_0 o11_1_1 o11_1_2 o11_1_3 o11_1_4 o11_1_5 o11_1_6 o11_1_7
def o11_2_0 : Oper := { dst := some 13, op := Go.Op.load 24 (Go.Operand.tmp 6), type := 24, pos := "ref.go:69", after := #[], guard := none }
def o11_2_1 : Oper := { dst := some 14, op := Go.Op.load 24 (Go.Operand.tmp 2), type := 24, pos := "ref.go:69", after := #[], guard := none }
def o11_2_2 : Oper := { dst := some 15, op := Go.Op.call { callee := Go.Callee.value (Go.Operand.func 52), args := #[Go.Operand.tmp 14], argTypes := #[24] }, type := 4, pos := "ref.go:69", after := #[{ on := 1, ground := Go.Ground.data }], guard := none }
def o11_2_3 : Oper := { dst := some 16, op := Go.Op.load 24 (Go.Operand.tmp 3), type := 24, pos := "ref.go:69", after := #[], guard := none }
def o11_2_4 : Oper := { dst := some 17, op := Go.Op.call { callee := Go.Callee.value (Go.Operand.func 52), args := #[Go.Operand.tmp 16], argTypes := #[24] }, type := 4, pos := "ref.go:69", after := #[{ on := 3, ground := Go.Ground.data }, { on := 2, ground := Go.Ground.chain }], guard := none }
def o11_2_5 : Oper := { dst := some 18, op := Go.Op.binOp Go.BinOp.eql 4 (Go.Operand.tmp 15) (Go.Operand.tmp 17) 4, type := 4, pos := "ref.go:69", after := #[{ on := 2, ground := Go.Ground.data }, { on := 4, ground := Go.Ground.data }], guard := none }
def o11_2_6 : Oper := { dst := some 19, op := Go.Op.move (Go.Operand.tmp 18), type := 4, pos := "ref.go:69", after := #[{ on := 5, ground := Go.Ground.data }, { on := 4, ground := Go.Ground.chain }], guard := none }
def o11_2_7 : Oper := { dst := some 20, op := Go.Op.load 24 (Go.Operand.tmp 6), type := 24, pos := "ref.go:69", after := #[{ on := 6, ground := Go.Ground.guard }], guard := some (6, true) }
def o11_2_8 : Oper := { dst := some 21, op := Go.Op.call { callee := Go.Callee.value (Go.Operand.func 52), args := #[Go.Operand.tmp 20], argTypes := #[24] }, type := 4, pos := "ref.go:69", after := #[{ on := 7, ground := Go.Ground.data }, { on := 6, ground := Go.Ground.chain }, { on := 6, ground := Go.Ground.guard }], guard := some (6, true) }
def o11_2_9 : Oper := { dst := some 22, op := Go.Op.load 24 (Go.Operand.tmp 2), type := 24, pos := "ref.go:69", after := #[{ on := 6, ground := Go.Ground.guard }], guard := some (6, true) }
def o11_2_10 : Oper := { dst := some 23, op := Go.Op.call { callee := Go.Callee.value (Go.Operand.func 52), args := #[Go.Operand.tmp 22], argTypes := #[24] }, type := 4, pos := "ref.go:69", after := #[{ on := 9, ground := Go.Ground.data }, { on := 8, ground := Go.Ground.chain }, { on := 6, ground := Go.Ground.guard }], guard := some (6, true) }
def o11_2_11 : Oper := { dst := some 24, op := Go.Op.binOp Go.BinOp.neq 4 (Go.Operand.tmp 21) (Go.Operand.tmp 23) 4, type := 4, pos := "ref.go:69", after := #[{ on := 8, ground := Go.Ground.data }, { on := 10, ground := Go.Ground.data }, { on := 6, ground := Go.Ground.guard }, { on := 13, ground := Go.Ground.gcOnly Go.Departure.lateStores }], guard := some (6, true) }
def o11_2_12 : Oper := { dst := some 25, op := Go.Op.pick (Go.Operand.tmp 19) (Go.Operand.tmp 24) (Go.Operand.const (Go.Value.bool false)), type := 4, pos := "ref.go:69", after := #[{ on := 6, ground := Go.Ground.data }, { on := 11, ground := Go.Ground.data }, { on := 13, ground := Go.Ground.gcOnly Go.Departure.lateStores }], guard := none }
def o11_2_13 : Oper := { dst := none, op := Go.Op.store 24 (Go.Operand.tmp 4) (Go.Operand.tmp 13), type := 0, pos := "ref.go:69", after := #[{ on := 0, ground := Go.Ground.data }, { on := 10, ground := Go.Ground.chain }, { on := 0, ground := Go.Ground.phase }, { on := 1, ground := Go.Ground.textOnly Go.Departure.lateStores }, { on := 2, ground := Go.Ground.textOnly Go.Departure.lateStoresUnsure }, { on := 3, ground := Go.Ground.textOnly Go.Departure.lateStores }, { on := 4, ground := Go.Ground.textOnly Go.Departure.lateStoresUnsure }, { on := 5, ground := Go.Ground.textOnly Go.Departure.lateStores }, { on := 6, ground := Go.Ground.textOnly Go.Departure.lateStores }, { on := 7, ground := Go.Ground.textOnly Go.Departure.lateStores }, { on := 8, ground := Go.Ground.textOnly Go.Departure.lateStoresUnsure }, { on := 9, ground := Go.Ground.textOnly Go.Departure.lateStores }, { on := 10, ground := Go.Ground.textOnly Go.Departure.lateStoresUnsure }, { on := 11, ground := Go.Ground.textOnly Go.Departure.lateStores }, { on := 12, ground := Go.Ground.textOnly Go.Departure.lateStores }], guard := none }
def o11_2_14 : Oper := { dst := some 5, op := Go.Op.assign (Go.Operand.tmp 25), type := 4, pos := "ref.go:69", after := #[{ on := 12, ground := Go.Ground.data }, { on := 13, ground := Go.Ground.chain }, { on := 0, ground := Go.Ground.phase }, { on := 1, ground := Go.Ground.phase }, { on := 2, ground := Go.Ground.phase }, { on := 3, ground := Go.Ground.phase }, { on := 4, ground := Go.Ground.phase }, { on := 5, ground := Go.Ground.phase }, { on := 6, ground := Go.Ground.phase }, { on := 7, ground := Go.Ground.phase }, { on := 8, ground := Go.Ground.phase }, { on := 9, ground := Go.Ground.phase }, { on := 10, ground := Go.Ground.phase }, { on := 11, ground := Go.Ground.phase }, { on := 12, ground := Go.Ground.phase }, { on := 13, ground := Go.Ground.phase }], guard := none }
attribute [local go_sem] o11_2_0 o11_2_1 o11_2_2 o11_2_3 o11_2_4 o11_2_5 o11_2_6 o11_2_7 o11_2_8 o11_2_9 o11_2_10 o11_2_11 o11_2_12 o11_2_13 o11_2_14
set_option maxRecDepth 100000 in
set_option maxHeartbeats 4000000 in
theorem refadd_r1 (w W : World) (B11 B6 B2 : Nat) (a b d e f r : Nat → Nat) (ha : Wds a) (hb : Wds b) (hd : Digs d) (he : Digs e)  (hf : Digs f) (Xh1 : Hid (digR a = d)) (Xh2 : Hid (digR b = e)) (Xh3 : Hid (plusR d e 0 = f)) (Xh4 : Hid (widR f = r))  (hL : Lv w [(B11, Obj.cells #[.int .u64 0, .int .u64 0, .int .u64 0, .int .u64 0] 24 (0, 0)), (B6, Obj.cells #[.int .u64 (b 0), .int .u64 (b 1), .int .u64 (b 2), .int .u64 (b 3)] 24 (0, 0)), (B2, Obj.cells #[.int .u64 (a 0), .int .u64 (a 1), .int .u64 (a 2), .int .u64 (a 3)] 24 (0, 0))] W) :
    (Code.region 1 #[o11_1_0, o11_1_1, o11_1_2, o11_1_3, o11_1_4, o11_1_5, o11_1_6, o11_1_7] true).wp Try.prog (fun ee aa ww => ee = Exit.normal ∧ ∃ N6 : Nat, aa = { tmps := #[.agg #[.int .u64 (a 0), .int .u64 (a 1), .int .u64 (a 2), .int .u64 (a 3)], .agg #[.int .u64 (b 0), .int .u64 (b 1), .int .u64 (b 2), .int .u64 (b 3)], .pointer (some ⟨B2, 0, none⟩), .pointer (some ⟨B6, 0, none⟩), .pointer (some ⟨B11, 0, none⟩), .bool false, .pointer (some ⟨N6, 0, none⟩), .agg #[.int .u64 (a 0), .int .u64 (a 1), .int .u64 (a 2), .int .u64 (a 3)], .agg #[.int .u64 (d 0), .int .u64 (d 1), .int .u64 (d 2), .int .u64 (d 3), .int .u64 (d 4), .int .u64 (d 5), .int .u64 (d 6), .int .u64 (d 7)], .agg #[.int .u64 (b 0), .int .u64 (b 1), .int .u64 (b 2), .int .u64 (b 3)], .agg #[.int .u64 (e 0), .int .u64 (e 1), .int .u64 (e 2), .int .u64 (e 3), .int .u64 (e 4), .int .u64 (e 5), .int .u64 (e 6), .int .u64 (e 7)], .agg #[.int .u64 (f 0), .int .u64 (f 1), .int .u64 (f 2), .int .u64 (f 3), .int .u64 (f 4), .int .u64 (f 5), .int .u64 (f 6), .int .u64 (f 7)], .agg #[.int .u64 (r 0), .int .u64 (r 1), .int .u64 (r 2), .int .u64 (r 3)], undef, undef, undef, undef, undef, undef, undef, undef, undef, undef, undef, undef, undef], defers := [] } ∧ Lv w [(N6, Obj.cells #[.int .u64 (r 0), .int .u64 (r 1), .int .u64 (r 2), .int .u64 (r 3)] 24 (0, 0)), (B11, Obj.cells #[.int .u64 0, .int .u64 0, .int .u64 0, .int .u64 0] 24 (0, 0)), (B6, Obj.cells #[.int .u64 (b 0), .int .u64 (b 1), .int .u64 (b 2), .int .u64 (b 3)] 24 (0, 0)), (B2, Obj.cells #[.int .u64 (a 0), .int .u64 (a 1), .int .u64 (a 2), .int .u64 (a 3)] 24 (0, 0))] ww) { tmps := #[.agg #[.int .u64 (a 0), .int .u64 (a 1), .int .u64 (a 2), .int .u64 (a 3)], .agg #[.int .u64 (b 0), .int .u64 (b 1), .int .u64 (b 2), .int .u64 (b 3)], .pointer (some ⟨B2, 0, none⟩), .pointer (some ⟨B6, 0, none⟩), .pointer (some ⟨B11, 0, none⟩), .bool false, undef, undef, undef, undef, undef, undef, undef, undef, undef, undef, undef, undef, undef, undef, undef, undef, undef, undef, undef, undef], defers := [] } W := by
  refine wp_region_noPanic ?_
  refine wp_region_held_drew (S := fun W' => Lv w [(B11, Obj.cells #[.int .u64 0, .int .u64 0, .int .u64 0, .int .u64 0] 24 (0, 0)), (B6, Obj.cells #[.int .u64 (b 0), .int .u64 (b 1), .int .u64 (b 2), .int .u64 (b 3)] 24 (0, 0)), (B2, Obj.cells #[.int .u64 (a 0), .int .u64 (a 1), .int .u64 (a 2), .int .u64 (a 3)] 24 (0, 0))] W') (by kernel_rfl) (lv_drew (lv_sub (sk (sk (sk sn))) hL)) (fun hHeld => ?_)
  replace hL := lv_drew hL
  obtain ⟨D15, hD16⟩ : ∃ W0, World.drew W = W0 := ⟨_, rfl⟩
  rw [hD16] at hHeld hL ⊢
  clear hD16
  refine tk 0 o11_1_0 (v := ?_) ?_ ?_
  rotate_left
  · intro w hSw
    obtain ⟨k0, k1, k2, k3⟩ := lv_cells4 hSw lm2
    delta o11_1_0
    go_simp
    try with_reducible rfl
  try simp only [Act.put, o11_1_0, List.setIfInBounds_toArray, List.set_cons_zero, List.set_cons_succ]
  refine tk 2 o11_1_2 (v := ?_) ?_ ?_
  rotate_left
  · intro w hSw
    obtain ⟨k0, k1, k2, k3⟩ := lv_cells4 hSw lm1
    delta o11_1_2
    go_simp
    try with_reducible rfl
  try simp only [Act.put, o11_1_2, List.setIfInBounds_toArray, List.set_cons_zero, List.set_cons_succ]
  refine rd2 1 6 o11_1_1 o11_1_6 (fun K hK => ?_) (fun K hK => ?_)
  · skip
    delta o11_1_1
    go_simp
    refine (digits_c ha Xh1.out _).mono ?_
    rintro e W17 ⟨rfl, hBl⟩
    replace hL := lv_below hL hBl
    clear hBl
    refine hK.out _ _ (lv_sub (sk (sk (sk sn))) hL) (fun hHeld2 => ?_)
    clear hK K hHeld
    have hHeld := hHeld2
    clear hHeld2
    try simp only [Act.put, o11_1_1, List.setIfInBounds_toArray, List.set_cons_zero, List.set_cons_succ]
    refine rd2 3 6 o11_1_3 o11_1_6 (fun K hK => ?_) (fun K hK => ?_)
    · skip
      delta o11_1_3
      go_simp
      refine (digits_c hb Xh2.out _).mono ?_
      rintro e W18 ⟨rfl, hBl⟩
      replace hL := lv_below hL hBl
      clear hBl
      refine hK.out _ _ (lv_sub (sk (sk (sk sn))) hL) (fun hHeld2 => ?_)
      clear hK K hHeld
      have hHeld := hHeld2
      clear hHeld2
      try simp only [Act.put, o11_1_3, List.setIfInBounds_toArray, List.set_cons_zero, List.set_cons_succ]
      refine rd2 4 6 o11_1_4 o11_1_6 (fun K hK => ?_) (fun K hK => ?_)
      · skip
        delta o11_1_4
        go_simp
        refine (plus0_c hd he Xh3.out _).mono ?_
        rintro e W19 ⟨rfl, hBl⟩
        replace hL := lv_below hL hBl
        clear hBl
        refine hK.out _ _ (lv_sub (sk (sk (sk sn))) hL) (fun hHeld2 => ?_)
        clear hK K hHeld
        have hHeld := hHeld2
        clear hHeld2
        try simp only [Act.put, o11_1_4, List.setIfInBounds_toArray, List.set_cons_zero, List.set_cons_succ]
        refine rd2 5 6 o11_1_5 o11_1_6 (fun K hK => ?_) (fun K hK => ?_)
        · skip
          delta o11_1_5
          go_simp
          refine (wide_c hf Xh4.out _).mono ?_
          rintro e W20 ⟨rfl, hBl⟩
          replace hL := lv_below hL hBl
          clear hBl
          refine hK.out _ _ (lv_sub (sk (sk (sk sn))) hL) (fun hHeld2 => ?_)
          clear hK K hHeld
          have hHeld := hHeld2
          clear hHeld2
          try simp only [Act.put, o11_1_5, List.setIfInBounds_toArray, List.set_cons_zero, List.set_cons_succ]
          refine rd1 6 o11_1_6 (fun K hK => ?_)
          delta o11_1_6
          go_simp
          obtain ⟨V21, B22, hVx, hBx, hL2⟩ := lv_grow hL (Obj.cells #[.int .u64 0, .int .u64 0, .int .u64 0, .int .u64 0] 24)
          rw [hVx, hBx]
          clear hVx hBx hL
          have hL := hL2
          clear hL2
          refine hK.out _ _ (lv_sub (sd (sk (sk (sk sn)))) hL) (fun hHeld2 => ?_)
          clear hK K hHeld
          have hHeld := hHeld2
          clear hHeld2
          try simp only [Act.put, o11_1_6, List.setIfInBounds_toArray, List.set_cons_zero, List.set_cons_succ]
          refine rd1 7 o11_1_7 (fun K hK => ?_)
          obtain ⟨k0, k1, k2, k3⟩ := lv_cells4 hL lm0
          have z0 := lv_frozen hL lm0 0
          have z1 := lv_frozen hL lm0 1
          have z2 := lv_frozen hL lm0 2
          have z3 := lv_frozen hL lm0 3
          delta o11_1_7
          go_simp
          clear k0 z0 k1 z1 k2 z2 k3 z3
          obtain ⟨V23, hVx, hL2⟩ : ∃ V, (World.setCell (World.setCell (World.setCell (World.setCell V21 ⟨B22, 0, none⟩ (.int .u64 (r 0))) ⟨B22, 1, none⟩ (.int .u64 (r 1))) ⟨B22, 2, none⟩ (.int .u64 (r 2))) ⟨B22, 3, none⟩ (.int .u64 (r 3))) = V ∧ Lv w [(B22, Obj.cells #[.int .u64 (r 0), .int .u64 (r 1), .int .u64 (r 2), .int .u64 (r 3)] 24 (0, 0)), (B11, Obj.cells #[.int .u64 0, .int .u64 0, .int .u64 0, .int .u64 0] 24 (0, 0)), (B6, Obj.cells #[.int .u64 (b 0), .int .u64 (b 1), .int .u64 (b 2), .int .u64 (b 3)] 24 (0, 0)), (B2, Obj.cells #[.int .u64 (a 0), .int .u64 (a 1), .int .u64 (a 2), .int .u64 (a 3)] 24 (0, 0))] V := ⟨_, rfl, lv_store4 [] hL _ _ _ _⟩
          rw [hVx]
          clear hVx hL
          have hL := hL2
          clear hL2
          refine hK.out _ _ (lv_sub (sd (sk (sk (sk sn)))) hL) (fun hHeld2 => ?_)
          clear hK K hHeld
          have hHeld := hHeld2
          clear hHeld2
          try simp only [Act.put, o11_1_7, List.setIfInBounds_toArray, List.set_cons_zero, List.set_cons_succ]
          refine wpAnyH_done (by kernel_rfl) ?_ _
          refine NoPanic.normal ?_
          exact ⟨rfl, B22, rfl, hL⟩
        · skip
          delta o11_1_6
          go_simp
          obtain ⟨V24, B25, hVx, hBx, hL2⟩ := lv_grow hL (Obj.cells #[.int .u64 0, .int .u64 0, .int .u64 0, .int .u64 0] 24)
          rw [hVx, hBx]
          clear hVx hBx hL
          have hL := hL2
          clear hL2
          refine hK.out _ _ (lv_sub (sd (sk (sk (sk sn)))) hL) (fun hHeld2 => ?_)
          clear hK K hHeld
          have hHeld := hHeld2
          clear hHeld2
          try simp only [Act.put, o11_1_6, List.setIfInBounds_toArray, List.set_cons_zero, List.set_cons_succ]
          refine rd1 5 o11_1_5 (fun K hK => ?_)
          delta o11_1_5
          go_simp
          refine (wide_c hf Xh4.out _).mono ?_
          rintro e W26 ⟨rfl, hBl⟩
          replace hL := lv_below hL hBl
          clear hBl
          refine hK.out _ _ (lv_sub (sd (sk (sk (sk sn)))) hL) (fun hHeld2 => ?_)
          clear hK K hHeld
          have hHeld := hHeld2
          clear hHeld2
          try simp only [Act.put, o11_1_5, List.setIfInBounds_toArray, List.set_cons_zero, List.set_cons_succ]
          refine rd1 7 o11_1_7 (fun K hK => ?_)
          obtain ⟨k0, k1, k2, k3⟩ := lv_cells4 hL lm0
          have z0 := lv_frozen hL lm0 0
          have z1 := lv_frozen hL lm0 1
          have z2 := lv_frozen hL lm0 2
          have z3 := lv_frozen hL lm0 3
          delta o11_1_7
          go_simp
          clear k0 z0 k1 z1 k2 z2 k3 z3
          obtain ⟨V27, hVx, hL2⟩ : ∃ V, (World.setCell (World.setCell (World.setCell (World.setCell W26 ⟨B25, 0, none⟩ (.int .u64 (r 0))) ⟨B25, 1, none⟩ (.int .u64 (r 1))) ⟨B25, 2, none⟩ (.int .u64 (r 2))) ⟨B25, 3, none⟩ (.int .u64 (r 3))) = V ∧ Lv w [(B25, Obj.cells #[.int .u64 (r 0), .int .u64 (r 1), .int .u64 (r 2), .int .u64 (r 3)] 24 (0, 0)), (B11, Obj.cells #[.int .u64 0, .int .u64 0, .int .u64 0, .int .u64 0] 24 (0, 0)), (B6, Obj.cells #[.int .u64 (b 0), .int .u64 (b 1), .int .u64 (b 2), .int .u64 (b 3)] 24 (0, 0)), (B2, Obj.cells #[.int .u64 (a 0), .int .u64 (a 1), .int .u64 (a 2), .int .u64 (a 3)] 24 (0, 0))] V := ⟨_, rfl, lv_store4 [] hL _ _ _ _⟩
          rw [hVx]
          clear hVx hL
          have hL := hL2
          clear hL2
          refine hK.out _ _ (lv_sub (sd (sk (sk (sk sn)))) hL) (fun hHeld2 => ?_)
          clear hK K hHeld
          have hHeld := hHeld2
          clear hHeld2
          try simp only [Act.put, o11_1_7, List.setIfInBounds_toArray, List.set_cons_zero, List.set_cons_succ]
          refine wpAnyH_done (by kernel_rfl) ?_ _
          refine NoPanic.normal ?_
          exact ⟨rfl, B25, rfl, hL⟩
      · skip
        delta o11_1_6
        go_simp
        obtain ⟨V28, B29, hVx, hBx, hL2⟩ := lv_grow hL (Obj.cells #[.int .u64 0, .int .u64 0, .int .u64 0, .int .u64 0] 24)
        rw [hVx, hBx]
        clear hVx hBx hL
        have hL := hL2
        clear hL2
        refine hK.out _ _ (lv_sub (sd (sk (sk (sk sn)))) hL) (fun hHeld2 => ?_)
        clear hK K hHeld
        have hHeld := hHeld2
        clear hHeld2
        try simp only [Act.put, o11_1_6, List.setIfInBounds_toArray, List.set_cons_zero, List.set_cons_succ]
        refine rd1 4 o11_1_4 (fun K hK => ?_)
        delta o11_1_4
        go_simp
        refine (plus0_c hd he Xh3.out _).mono ?_
        rintro e W30 ⟨rfl, hBl⟩
        replace hL := lv_below hL hBl
        clear hBl
        refine hK.out _ _ (lv_sub (sd (sk (sk (sk sn)))) hL) (fun hHeld2 => ?_)
        clear hK K hHeld
        have hHeld := hHeld2
        clear hHeld2
        try simp only [Act.put, o11_1_4, List.setIfInBounds_toArray, List.set_cons_zero, List.set_cons_succ]
        refine rd1 5 o11_1_5 (fun K hK => ?_)
        delta o11_1_5
        go_simp
        refine (wide_c hf Xh4.out _).mono ?_
        rintro e W31 ⟨rfl, hBl⟩
        replace hL := lv_below hL hBl
        clear hBl
        refine hK.out _ _ (lv_sub (sd (sk (sk (sk sn)))) hL) (fun hHeld2 => ?_)
        clear hK K hHeld
        have hHeld := hHeld2
        clear hHeld2
        try simp only [Act.put, o11_1_5, List.setIfInBounds_toArray, List.set_cons_zero, List.set_cons_succ]
        refine rd1 7 o11_1_7 (fun K hK => ?_)
        obtain ⟨k0, k1, k2, k3⟩ := lv_cells4 hL lm0
        have z0 := lv_frozen hL lm0 0
        have z1 := lv_frozen hL lm0 1
        have z2 := lv_frozen hL lm0 2
        have z3 := lv_frozen hL lm0 3
        delta o11_1_7
        go_simp
        clear k0 z0 k1 z1 k2 z2 k3 z3
        obtain ⟨V32, hVx, hL2⟩ : ∃ V, (World.setCell (World.setCell (World.setCell (World.setCell W31 ⟨B29, 0, none⟩ (.int .u64 (r 0))) ⟨B29, 1, none⟩ (.int .u64 (r 1))) ⟨B29, 2, none⟩ (.int .u64 (r 2))) ⟨B29, 3, none⟩ (.int .u64 (r 3))) = V ∧ Lv w [(B29, Obj.cells #[.int .u64 (r 0), .int .u64 (r 1), .int .u64 (r 2), .int .u64 (r 3)] 24 (0, 0)), (B11, Obj.cells #[.int .u64 0, .int .u64 0, .int .u64 0, .int .u64 0] 24 (0, 0)), (B6, Obj.cells #[.int .u64 (b 0), .int .u64 (b 1), .int .u64 (b 2), .int .u64 (b 3)] 24 (0, 0)), (B2, Obj.cells #[.int .u64 (a 0), .int .u64 (a 1), .int .u64 (a 2), .int .u64 (a 3)] 24 (0, 0))] V := ⟨_, rfl, lv_store4 [] hL _ _ _ _⟩
        rw [hVx]
        clear hVx hL
        have hL := hL2
        clear hL2
        refine hK.out _ _ (lv_sub (sd (sk (sk (sk sn)))) hL) (fun hHeld2 => ?_)
        clear hK K hHeld
        have hHeld := hHeld2
        clear hHeld2
        try simp only [Act.put, o11_1_7, List.setIfInBounds_toArray, List.set_cons_zero, List.set_cons_succ]
        refine wpAnyH_done (by kernel_rfl) ?_ _
        refine NoPanic.normal ?_
        exact ⟨rfl, B29, rfl, hL⟩
    · skip
      delta o11_1_6
      go_simp
      obtain ⟨V33, B34, hVx, hBx, hL2⟩ := lv_grow hL (Obj.cells #[.int .u64 0, .int .u64 0, .int .u64 0, .int .u64 0] 24)
      rw [hVx, hBx]
      clear hVx hBx hL
      have hL := hL2
      clear hL2
      refine hK.out _ _ (lv_sub (sd (sk (sk (sk sn)))) hL) (fun hHeld2 => ?_)
      clear hK K hHeld
      have hHeld := hHeld2
      clear hHeld2
      try simp only [Act.put, o11_1_6, List.setIfInBounds_toArray, List.set_cons_zero, List.set_cons_succ]
      refine rd1 3 o11_1_3 (fun K hK => ?_)
      delta o11_1_3
      go_simp
      refine (digits_c hb Xh2.out _).mono ?_
      rintro e W35 ⟨rfl, hBl⟩
      replace hL := lv_below hL hBl
      clear hBl
      refine hK.out _ _ (lv_sub (sd (sk (sk (sk sn)))) hL) (fun hHeld2 => ?_)
      clear hK K hHeld
      have hHeld := hHeld2
      clear hHeld2
      try simp only [Act.put, o11_1_3, List.setIfInBounds_toArray, List.set_cons_zero, List.set_cons_succ]
      refine rd1 4 o11_1_4 (fun K hK => ?_)
      delta o11_1_4
      go_simp
      refine (plus0_c hd he Xh3.out _).mono ?_
      rintro e W36 ⟨rfl, hBl⟩
      replace hL := lv_below hL hBl
      clear hBl
      refine hK.out _ _ (lv_sub (sd (sk (sk (sk sn)))) hL) (fun hHeld2 => ?_)
      clear hK K hHeld
      have hHeld := hHeld2
      clear hHeld2
      try simp only [Act.put, o11_1_4, List.setIfInBounds_toArray, List.set_cons_zero, List.set_cons_succ]
      refine rd1 5 o11_1_5 (fun K hK => ?_)
      delta o11_1_5
      go_simp
      refine (wide_c hf Xh4.out _).mono ?_
      rintro e W37 ⟨rfl, hBl⟩
      replace hL := lv_below hL hBl
      clear hBl
      refine hK.out _ _ (lv_sub (sd (sk (sk (sk sn)))) hL) (fun hHeld2 => ?_)
      clear hK K hHeld
      have hHeld := hHeld2
      clear hHeld2
      try simp only [Act.put, o11_1_5, List.setIfInBounds_toArray, List.set_cons_zero, List.set_cons_succ]
      refine rd1 7 o11_1_7 (fun K hK => ?_)
      obtain ⟨k0, k1, k2, k3⟩ := lv_cells4 hL lm0
      have z0 := lv_frozen hL lm0 0
      have z1 := lv_frozen hL lm0 1
      have z2 := lv_frozen hL lm0 2
      have z3 := lv_frozen hL lm0 3
      delta o11_1_7
      go_simp
      clear k0 z0 k1 z1 k2 z2 k3 z3
      obtain ⟨V38, hVx, hL2⟩ : ∃ V, (World.setCell (World.setCell (World.setCell (World.setCell W37 ⟨B34, 0, none⟩ (.int .u64 (r 0))) ⟨B34, 1, none⟩ (.int .u64 (r 1))) ⟨B34, 2, none⟩ (.int .u64 (r 2))) ⟨B34, 3, none⟩ (.int .u64 (r 3))) = V ∧ Lv w [(B34, Obj.cells #[.int .u64 (r 0), .int .u64 (r 1), .int .u64 (r 2), .int .u64 (r 3)] 24 (0, 0)), (B11, Obj.cells #[.int .u64 0, .int .u64 0, .int .u64 0, .int .u64 0] 24 (0, 0)), (B6, Obj.cells #[.int .u64 (b 0), .int .u64 (b 1), .int .u64 (b 2), .int .u64 (b 3)] 24 (0, 0)), (B2, Obj.cells #[.int .u64 (a 0), .int .u64 (a 1), .int .u64 (a 2), .int .u64 (a 3)] 24 (0, 0))] V := ⟨_, rfl, lv_store4 [] hL _ _ _ _⟩
      rw [hVx]
      clear hVx hL
      have hL := hL2
      clear hL2
      refine hK.out _ _ (lv_sub (sd (sk (sk (sk sn)))) hL) (fun hHeld2 => ?_)
      clear hK K hHeld
      have hHeld := hHeld2
      clear hHeld2
      try simp only [Act.put, o11_1_7, List.setIfInBounds_toArray, List.set_cons_zero, List.set_cons_succ]
      refine wpAnyH_done (by kernel_rfl) ?_ _
      refine NoPanic.normal ?_
      exact ⟨rfl, B34, rfl, hL⟩
  · skip
    delta o11_1_6
    go_simp
    obtain ⟨V39, B40, hVx, hBx, hL2⟩ := lv_grow hL (Obj.cells #[.int .u64 0, .int .u64 0, .int .u64 0, .int .u64 0] 24)
    rw [hVx, hBx]
    clear hVx hBx hL
    have hL := hL2
    clear hL2
    refine hK.out _ _ (lv_sub (sd (sk (sk (sk sn)))) hL) (fun hHeld2 => ?_)
    clear hK K hHeld
    have hHeld := hHeld2
    clear hHeld2
    try simp only [Act.put, o11_1_6, List.setIfInBounds_toArray, List.set_cons_zero, List.set_cons_succ]
    refine rd1 1 o11_1_1 (fun K hK => ?_)
    delta o11_1_1
    go_simp
    refine (digits_c ha Xh1.out _).mono ?_
    rintro e W41 ⟨rfl, hBl⟩
    replace hL := lv_below hL hBl
    clear hBl
    refine hK.out _ _ (lv_sub (sd (sk (sk (sk sn)))) hL) (fun hHeld2 => ?_)
    clear hK K hHeld
    have hHeld := hHeld2
    clear hHeld2
    try simp only [Act.put, o11_1_1, List.setIfInBounds_toArray, List.set_cons_zero, List.set_cons_succ]
    refine rd1 3 o11_1_3 (fun K hK => ?_)
    delta o11_1_3
    go_simp
    refine (digits_c hb Xh2.out _).mono ?_
    rintro e W42 ⟨rfl, hBl⟩
    replace hL := lv_below hL hBl
    clear hBl
    refine hK.out _ _ (lv_sub (sd (sk (sk (sk sn)))) hL) (fun hHeld2 => ?_)
    clear hK K hHeld
    have hHeld := hHeld2
    clear hHeld2
    try simp only [Act.put, o11_1_3, List.setIfInBounds_toArray, List.set_cons_zero, List.set_cons_succ]
    refine rd1 4 o11_1_4 (fun K hK => ?_)
    delta o11_1_4
    go_simp
    refine (plus0_c hd he Xh3.out _).mono ?_
    rintro e W43 ⟨rfl, hBl⟩
    replace hL := lv_below hL hBl
    clear hBl
    refine hK.out _ _ (lv_sub (sd (sk (sk (sk sn)))) hL) (fun hHeld2 => ?_)
    clear hK K hHeld
    have hHeld := hHeld2
    clear hHeld2
    try simp only [Act.put, o11_1_4, List.setIfInBounds_toArray, List.set_cons_zero, List.set_cons_succ]
    refine rd1 5 o11_1_5 (fun K hK => ?_)
    delta o11_1_5
    go_simp
    refine (wide_c hf Xh4.out _).mono ?_
    rintro e W44 ⟨rfl, hBl⟩
    replace hL := lv_below hL hBl
    clear hBl
    refine hK.out _ _ (lv_sub (sd (sk (sk (sk sn)))) hL) (fun hHeld2 => ?_)
    clear hK K hHeld
    have hHeld := hHeld2
    clear hHeld2
    try simp only [Act.put, o11_1_5, List.setIfInBounds_toArray, List.set_cons_zero, List.set_cons_succ]
    refine rd1 7 o11_1_7 (fun K hK => ?_)
    obtain ⟨k0, k1, k2, k3⟩ := lv_cells4 hL lm0
    have z0 := lv_frozen hL lm0 0
    have z1 := lv_frozen hL lm0 1
    have z2 := lv_frozen hL lm0 2
    have z3 := lv_frozen hL lm0 3
    delta o11_1_7
    go_simp
    clear k0 z0 k1 z1 k2 z2 k3 z3
    obtain ⟨V45, hVx, hL2⟩ : ∃ V, (World.setCell (World.setCell (World.setCell (World.setCell W44 ⟨B40, 0, none⟩ (.int .u64 (r 0))) ⟨B40, 1, none⟩ (.int .u64 (r 1))) ⟨B40, 2, none⟩ (.int .u64 (r 2))) ⟨B40, 3, none⟩ (.int .u64 (r 3))) = V ∧ Lv w [(B40, Obj.cells #[.int .u64 (r 0), .int .u64 (r 1), .int .u64 (r 2), .int .u64 (r 3)] 24 (0, 0)), (B11, Obj.cells #[.int .u64 0, .int .u64 0, .int .u64 0, .int .u64 0] 24 (0, 0)), (B6, Obj.cells #[.int .u64 (b 0), .int .u64 (b 1), .int .u64 (b 2), .int .u64 (b 3)] 24 (0, 0)), (B2, Obj.cells #[.int .u64 (a 0), .int .u64 (a 1), .int .u64 (a 2), .int .u64 (a 3)] 24 (0, 0))] V := ⟨_, rfl, lv_store4 [] hL _ _ _ _⟩
    rw [hVx]
    clear hVx hL
    have hL := hL2
    clear hL2
    refine hK.out _ _ (lv_sub (sd (sk (sk (sk sn)))) hL) (fun hHeld2 => ?_)
    clear hK K hHeld
    have hHeld := hHeld2
    clear hHeld2
    try simp only [Act.put, o11_1_7, List.setIfInBounds_toArray, List.set_cons_zero, List.set_cons_succ]
    refine wpAnyH_done (by kernel_rfl) ?_ _
    refine NoPanic.normal ?_
    exact ⟨rfl, B40, rfl, hL⟩

set_option maxRecDepth 100000 in
set_option maxHeartbeats 4000000 in
theorem refadd_000 (a b d e f r : Nat → Nat) (ha : Wds a) (hb : Wds b) (hd : Digs d) (he : Digs e)  (hf : Digs f) (hr : Wds r) (h1 : digR a = d) (h2 : digR b = e) (h3 : plusR d e 0 = f) (h4 : widR f = r) (h5 : lowB a = false) (h6 : lowB b = false) (h8 : lowB r = false)  (w : World) :
    Calls Try.prog 11 #[.agg #[.int .u64 (a 0), .int .u64 (a 1), .int .u64 (a 2), .int .u64 (a 3)], .agg #[.int .u64 (b 0), .int .u64 (b 1), .int .u64 (b 2), .int .u64 (b 3)]] w fun ee w' => ee = .returned (.tuple #[.agg #[.int .u64 (r 0), .int .u64 (r 1), .int .u64 (r 2), .int .u64 (r 3)], .bool false]) ∧ Below w.heap.size w w' := by
  have Xh1 := Lib.hid h1
  have Xh2 := Lib.hid h2
  have Xh3 := Lib.hid h3
  have Xh4 := Lib.hid h4
  have Xh5 := Lib.hid h5
  have Xh6 := Lib.hid h6
  have Xh8 := Lib.hid h8
  clear h1 h2 h3 h4 h5 h6 h8
  have hL := lv_nil w
  go_enter Try.func11, Try.ntmps11
  go_wp2_with fail
  obtain ⟨V1, B2, hV3, hB4, hL⟩ := lv_grow hL (Obj.cells #[.int .u64 (a 0), .int .u64 (a 1), .int .u64 (a 2), .int .u64 (a 3)] 24)
  rw [hV3]
  try rw [hB4]
  obtain ⟨V5, B6, hV7, hB8, hL⟩ := lv_grow hL (Obj.cells #[.int .u64 (b 0), .int .u64 (b 1), .int .u64 (b 2), .int .u64 (b 3)] 24)
  rw [hV7]
  have hs9 : B2 + 1 = B6 := by rw [← hB8, ← hV3, World.size_alloc, hB4]
  try rw [hs9]
  clear hs9
  obtain ⟨V10, B11, hV12, hB13, hL⟩ := lv_grow hL (Obj.cells #[.int .u64 0, .int .u64 0, .int .u64 0, .int .u64 0] 24)
  rw [hV12]
  have hs14 : B6 + 1 = B11 := by rw [← hB13, ← hV7, World.size_alloc, hB8]
  try rw [hs14]
  clear hs14
  clear hV3 hB4 hV7 hB8 hV12 hB13
  refine Code.wp_mono ?_ (refadd_r1 w _ B11 B6 B2 a b d e f r ha hb hd he hf Xh1 Xh2 Xh3 Xh4  hL)
  rintro ee aa W46 ⟨rfl, B47, rfl, hL2⟩
  clear hL
  have hL := hL2
  clear hL2
  go_wp2_with fail
  refine wp_region_held_drew (S := fun W' => Lv w [(B47, Obj.cells #[.int .u64 (r 0), .int .u64 (r 1), .int .u64 (r 2), .int .u64 (r 3)] 24 (0, 0)), (B6, Obj.cells #[.int .u64 (b 0), .int .u64 (b 1), .int .u64 (b 2), .int .u64 (b 3)] 24 (0, 0)), (B2, Obj.cells #[.int .u64 (a 0), .int .u64 (a 1), .int .u64 (a 2), .int .u64 (a 3)] 24 (0, 0))] W') (by kernel_rfl) (lv_drew (lv_sub (sk (sd (sk (sk sn)))) hL)) (fun hHeld => ?_)
  replace hL := lv_drew hL
  obtain ⟨D48, hD49⟩ : ∃ W0, World.drew W46 = W0 := ⟨_, rfl⟩
  rw [hD49] at hHeld hL ⊢
  clear hD49
  refine tk 0 o11_2_0 (v := ?_) ?_ ?_
  rotate_left
  · intro w hSw
    obtain ⟨k0, k1, k2, k3⟩ := lv_cells4 hSw lm0
    delta o11_2_0
    go_simp
    try with_reducible rfl
  try simp only [Act.put, o11_2_0, List.setIfInBounds_toArray, List.set_cons_zero, List.set_cons_succ]
  refine tk 1 o11_2_1 (v := ?_) ?_ ?_
  rotate_left
  · intro w hSw
    obtain ⟨k0, k1, k2, k3⟩ := lv_cells4 hSw lm2
    delta o11_2_1
    go_simp
    try with_reducible rfl
  try simp only [Act.put, o11_2_1, List.setIfInBounds_toArray, List.set_cons_zero, List.set_cons_succ]
  refine tk 3 o11_2_3 (v := ?_) ?_ ?_
  rotate_left
  · intro w hSw
    obtain ⟨k0, k1, k2, k3⟩ := lv_cells4 hSw lm1
    delta o11_2_3
    go_simp
    try with_reducible rfl
  try simp only [Act.put, o11_2_3, List.setIfInBounds_toArray, List.set_cons_zero, List.set_cons_succ]
  refine rd1 2 o11_2_2 (fun K hK => ?_)
  delta o11_2_2
  go_simp
  refine (low_c ha Xh5.out _).mono ?_
  rintro e W50 ⟨rfl, hBl⟩
  replace hL := lv_below hL hBl
  clear hBl
  refine hK.out _ _ (lv_sub (sk (sd (sk (sk sn)))) hL) (fun hHeld2 => ?_)
  clear hK K hHeld
  have hHeld := hHeld2
  clear hHeld2
  try simp only [Act.put, o11_2_2, List.setIfInBounds_toArray, List.set_cons_zero, List.set_cons_succ]
  refine rd1 4 o11_2_4 (fun K hK => ?_)
  delta o11_2_4
  go_simp
  refine (low_c hb Xh6.out _).mono ?_
  rintro e W51 ⟨rfl, hBl⟩
  replace hL := lv_below hL hBl
  clear hBl
  refine hK.out _ _ (lv_sub (sk (sd (sk (sk sn)))) hL) (fun hHeld2 => ?_)
  clear hK K hHeld
  have hHeld := hHeld2
  clear hHeld2
  try simp only [Act.put, o11_2_4, List.setIfInBounds_toArray, List.set_cons_zero, List.set_cons_succ]
  refine tk 5 o11_2_5 (v := ?_) ?_ ?_
  rotate_left
  · intro w hSw
    delta o11_2_5
    go_simp
    try with_reducible rfl
  try simp only [Act.put, o11_2_5, List.setIfInBounds_toArray, List.set_cons_zero, List.set_cons_succ]
  refine tk 6 o11_2_6 (v := ?_) ?_ ?_
  rotate_left
  · intro w hSw
    delta o11_2_6
    go_simp
    try with_reducible rfl
  try simp only [Act.put, o11_2_6, List.setIfInBounds_toArray, List.set_cons_zero, List.set_cons_succ]
  refine tk 7 o11_2_7 (v := ?_) ?_ ?_
  rotate_left
  · intro w hSw
    obtain ⟨k0, k1, k2, k3⟩ := lv_cells4 hSw lm0
    delta o11_2_7
    go_simp
    try with_reducible rfl
  try simp only [Act.put, o11_2_7, List.setIfInBounds_toArray, List.set_cons_zero, List.set_cons_succ]
  refine tk 9 o11_2_9 (v := ?_) ?_ ?_
  rotate_left
  · intro w hSw
    obtain ⟨k0, k1, k2, k3⟩ := lv_cells4 hSw lm2
    delta o11_2_9
    go_simp
    try with_reducible rfl
  try simp only [Act.put, o11_2_9, List.setIfInBounds_toArray, List.set_cons_zero, List.set_cons_succ]
  refine rd1 8 o11_2_8 (fun K hK => ?_)
  delta o11_2_8
  go_simp
  refine (low_c hr Xh8.out _).mono ?_
  rintro e W52 ⟨rfl, hBl⟩
  replace hL := lv_below hL hBl
  clear hBl
  refine hK.out _ _ (lv_sub (sk (sd (sk (sk sn)))) hL) (fun hHeld2 => ?_)
  clear hK K hHeld
  have hHeld := hHeld2
  clear hHeld2
  try simp only [Act.put, o11_2_8, List.setIfInBounds_toArray, List.set_cons_zero, List.set_cons_succ]
  refine rd1 10 o11_2_10 (fun K hK => ?_)
  delta o11_2_10
  go_simp
  refine (low_c ha Xh5.out _).mono ?_
  rintro e W53 ⟨rfl, hBl⟩
  replace hL := lv_below hL hBl
  clear hBl
  refine hK.out _ _ (lv_sub (sk (sd (sk (sk sn)))) hL) (fun hHeld2 => ?_)
  clear hK K hHeld
  have hHeld := hHeld2
  clear hHeld2
  try simp only [Act.put, o11_2_10, List.setIfInBounds_toArray, List.set_cons_zero, List.set_cons_succ]
  refine tk 11 o11_2_11 (v := ?_) ?_ ?_
  rotate_left
  · intro w hSw
    delta o11_2_11
    go_simp
    try with_reducible rfl
  try simp only [Act.put, o11_2_11, List.setIfInBounds_toArray, List.set_cons_zero, List.set_cons_succ]
  refine tk 12 o11_2_12 (v := ?_) ?_ ?_
  rotate_left
  · intro w hSw
    delta o11_2_12
    go_simp
    try with_reducible rfl
  try simp only [Act.put, o11_2_12, List.setIfInBounds_toArray, List.set_cons_zero, List.set_cons_succ]
  refine rd1 13 o11_2_13 (fun K hK => ?_)
  obtain ⟨k0, k1, k2, k3⟩ := lv_cells4 hL lm1
  have z0 := lv_frozen hL lm1 0
  have z1 := lv_frozen hL lm1 1
  have z2 := lv_frozen hL lm1 2
  have z3 := lv_frozen hL lm1 3
  delta o11_2_13
  go_simp
  clear k0 z0 k1 z1 k2 z2 k3 z3
  obtain ⟨V54, hVx, hL2⟩ : ∃ V, (World.setCell (World.setCell (World.setCell (World.setCell W53 ⟨B11, 0, none⟩ (.int .u64 (r 0))) ⟨B11, 1, none⟩ (.int .u64 (r 1))) ⟨B11, 2, none⟩ (.int .u64 (r 2))) ⟨B11, 3, none⟩ (.int .u64 (r 3))) = V ∧ Lv w [(B47, Obj.cells #[.int .u64 (r 0), .int .u64 (r 1), .int .u64 (r 2), .int .u64 (r 3)] 24 (0, 0)), (B11, Obj.cells #[.int .u64 (r 0), .int .u64 (r 1), .int .u64 (r 2), .int .u64 (r 3)] 24 (0, 0)), (B6, Obj.cells #[.int .u64 (b 0), .int .u64 (b 1), .int .u64 (b 2), .int .u64 (b 3)] 24 (0, 0)), (B2, Obj.cells #[.int .u64 (a 0), .int .u64 (a 1), .int .u64 (a 2), .int .u64 (a 3)] 24 (0, 0))] V := ⟨_, rfl, lv_store4 [(B47, Obj.cells #[.int .u64 (r 0), .int .u64 (r 1), .int .u64 (r 2), .int .u64 (r 3)] 24 (0, 0))] hL _ _ _ _⟩
  rw [hVx]
  clear hVx hL
  have hL := hL2
  clear hL2
  refine hK.out _ _ (lv_sub (sk (sd (sk (sk sn)))) hL) (fun hHeld2 => ?_)
  clear hK K hHeld
  have hHeld := hHeld2
  clear hHeld2
  try simp only [Act.put, o11_2_13, List.setIfInBounds_toArray, List.set_cons_zero, List.set_cons_succ]
  refine tk 14 o11_2_14 (v := ?_) ?_ ?_
  rotate_left
  · intro w hSw
    delta o11_2_14
    go_simp
    try with_reducible rfl
  try simp only [Act.put, o11_2_14, List.setIfInBounds_toArray, List.set_cons_zero, List.set_cons_succ]
  refine wpAnyH_done (by kernel_rfl) ?_ _
  clear hHeld
  go_wp2_with fail
  obtain ⟨k55, k56, k57, k58⟩ := lv_cells4 hL lm1
  refine bodyPost_ret (v := .tuple #[.agg #[.int .u64 (r 0), .int .u64 (r 1), .int .u64 (r 2), .int .u64 (r 3)], .bool false]) (by simp [results, Try.results11, go_sem, k55, k56, k57, k58]) rfl ⟨rfl, hL.2.2.2⟩

set_option maxRecDepth 100000 in
set_option maxHeartbeats 4000000 in
theorem refadd_001 (a b d e f r : Nat → Nat) (ha : Wds a) (hb : Wds b) (hd : Digs d) (he : Digs e)  (hf : Digs f) (hr : Wds r) (h1 : digR a = d) (h2 : digR b = e) (h3 : plusR d e 0 = f) (h4 : widR f = r) (h5 : lowB a = false) (h6 : lowB b = false) (h8 : lowB r = true)  (w : World) :
    Calls Try.prog 11 #[.agg #[.int .u64 (a 0), .int .u64 (a 1), .int .u64 (a 2), .int .u64 (a 3)], .agg #[.int .u64 (b 0), .int .u64 (b 1), .int .u64 (b 2), .int .u64 (b 3)]] w fun ee w' => ee = .returned (.tuple #[.agg #[.int .u64 (r 0), .int .u64 (r 1), .int .u64 (r 2), .int .u64 (r 3)], .bool true]) ∧ Below w.heap.size w w' := by
  have Xh1 := Lib.hid h1
  have Xh2 := Lib.hid h2
  have Xh3 := Lib.hid h3
  have Xh4 := Lib.hid h4
  have Xh5 := Lib.hid h5
  have Xh6 := Lib.hid h6
  have Xh8 := Lib.hid h8
  clear h1 h2 h3 h4 h5 h6 h8
  have hL := lv_nil w
  go_enter Try.func11, Try.ntmps11
  go_wp2_with fail
  obtain ⟨V1, B2, hV3, hB4, hL⟩ := lv_grow hL (Obj.cells #[.int .u64 (a 0), .int .u64 (a 1), .int .u64 (a 2), .int .u64 (a 3)] 24)
  rw [hV3]
  try rw [hB4]
  obtain ⟨V5, B6, hV7, hB8, hL⟩ := lv_grow hL (Obj.cells #[.int .u64 (b 0), .int .u64 (b 1), .int .u64 (b 2), .int .u64 (b 3)] 24)
  rw [hV7]
  have hs9 : B2 + 1 = B6 := by rw [← hB8, ← hV3, World.size_alloc, hB4]
  try rw [hs9]
  clear hs9
  obtain ⟨V10, B11, hV12, hB13, hL⟩ := lv_grow hL (Obj.cells #[.int .u64 0, .int .u64 0, .int .u64 0, .int .u64 0] 24)
  rw [hV12]
  have hs14 : B6 + 1 = B11 := by rw [← hB13, ← hV7, World.size_alloc, hB8]
  try rw [hs14]
  clear hs14
  clear hV3 hB4 hV7 hB8 hV12 hB13
  refine Code.wp_mono ?_ (refadd_r1 w _ B11 B6 B2 a b d e f r ha hb hd he hf Xh1 Xh2 Xh3 Xh4  hL)
  rintro ee aa W17 ⟨rfl, B18, rfl, hL2⟩
  clear hL
  have hL := hL2
  clear hL2
  go_wp2_with fail
  refine wp_region_held_drew (S := fun W' => Lv w [(B18, Obj.cells #[.int .u64 (r 0), .int .u64 (r 1), .int .u64 (r 2), .int .u64 (r 3)] 24 (0, 0)), (B6, Obj.cells #[.int .u64 (b 0), .int .u64 (b 1), .int .u64 (b 2), .int .u64 (b 3)] 24 (0, 0)), (B2, Obj.cells #[.int .u64 (a 0), .int .u64 (a 1), .int .u64 (a 2), .int .u64 (a 3)] 24 (0, 0))] W') (by kernel_rfl) (lv_drew (lv_sub (sk (sd (sk (sk sn)))) hL)) (fun hHeld => ?_)
  replace hL := lv_drew hL
  obtain ⟨D19, hD20⟩ : ∃ W0, World.drew W17 = W0 := ⟨_, rfl⟩
  rw [hD20] at hHeld hL ⊢
  clear hD20
  refine tk 0 o11_2_0 (v := ?_) ?_ ?_
  rotate_left
  · intro w hSw
    obtain ⟨k0, k1, k2, k3⟩ := lv_cells4 hSw lm0
    delta o11_2_0
    go_simp
    try with_reducible rfl
  try simp only [Act.put, o11_2_0, List.setIfInBounds_toArray, List.set_cons_zero, List.set_cons_succ]
  refine tk 1 o11_2_1 (v := ?_) ?_ ?_
  rotate_left
  · intro w hSw
    obtain ⟨k0, k1, k2, k3⟩ := lv_cells4 hSw lm2
    delta o11_2_1
    go_simp
    try with_reducible rfl
  try simp only [Act.put, o11_2_1, List.setIfInBounds_toArray, List.set_cons_zero, List.set_cons_succ]
  refine tk 3 o11_2_3 (v := ?_) ?_ ?_
  rotate_left
  · intro w hSw
    obtain ⟨k0, k1, k2, k3⟩ := lv_cells4 hSw lm1
    delta o11_2_3
    go_simp
    try with_reducible rfl
  try simp only [Act.put, o11_2_3, List.setIfInBounds_toArray, List.set_cons_zero, List.set_cons_succ]
  refine rd1 2 o11_2_2 (fun K hK => ?_)
  delta o11_2_2
  go_simp
  refine (low_c ha Xh5.out _).mono ?_
  rintro e W21 ⟨rfl, hBl⟩
  replace hL := lv_below hL hBl
  clear hBl
  refine hK.out _ _ (lv_sub (sk (sd (sk (sk sn)))) hL) (fun hHeld2 => ?_)
  clear hK K hHeld
  have hHeld := hHeld2
  clear hHeld2
  try simp only [Act.put, o11_2_2, List.setIfInBounds_toArray, List.set_cons_zero, List.set_cons_succ]
  refine rd1 4 o11_2_4 (fun K hK => ?_)
  delta o11_2_4
  go_simp
  refine (low_c hb Xh6.out _).mono ?_
  rintro e W22 ⟨rfl, hBl⟩
  replace hL := lv_below hL hBl
  clear hBl
  refine hK.out _ _ (lv_sub (sk (sd (sk (sk sn)))) hL) (fun hHeld2 => ?_)
  clear hK K hHeld
  have hHeld := hHeld2
  clear hHeld2
  try simp only [Act.put, o11_2_4, List.setIfInBounds_toArray, List.set_cons_zero, List.set_cons_succ]
  refine tk 5 o11_2_5 (v := ?_) ?_ ?_
  rotate_left
  · intro w hSw
    delta o11_2_5
    go_simp
    try with_reducible rfl
  try simp only [Act.put, o11_2_5, List.setIfInBounds_toArray, List.set_cons_zero, List.set_cons_succ]
  refine tk 6 o11_2_6 (v := ?_) ?_ ?_
  rotate_left
  · intro w hSw
    delta o11_2_6
    go_simp
    try with_reducible rfl
  try simp only [Act.put, o11_2_6, List.setIfInBounds_toArray, List.set_cons_zero, List.set_cons_succ]
  refine tk 7 o11_2_7 (v := ?_) ?_ ?_
  rotate_left
  · intro w hSw
    obtain ⟨k0, k1, k2, k3⟩ := lv_cells4 hSw lm0
    delta o11_2_7
    go_simp
    try with_reducible rfl
  try simp only [Act.put, o11_2_7, List.setIfInBounds_toArray, List.set_cons_zero, List.set_cons_succ]
  refine tk 9 o11_2_9 (v := ?_) ?_ ?_
  rotate_left
  · intro w hSw
    obtain ⟨k0, k1, k2, k3⟩ := lv_cells4 hSw lm2
    delta o11_2_9
    go_simp
    try with_reducible rfl
  try simp only [Act.put, o11_2_9, List.setIfInBounds_toArray, List.set_cons_zero, List.set_cons_succ]
  refine rd1 8 o11_2_8 (fun K hK => ?_)
  delta o11_2_8
  go_simp
  refine (low_c hr Xh8.out _).mono ?_
  rintro e W23 ⟨rfl, hBl⟩
  replace hL := lv_below hL hBl
  clear hBl
  refine hK.out _ _ (lv_sub (sk (sd (sk (sk sn)))) hL) (fun hHeld2 => ?_)
  clear hK K hHeld
  have hHeld := hHeld2
  clear hHeld2
  try simp only [Act.put, o11_2_8, List.setIfInBounds_toArray, List.set_cons_zero, List.set_cons_succ]
  refine rd1 10 o11_2_10 (fun K hK => ?_)
  delta o11_2_10
  go_simp
  refine (low_c ha Xh5.out _).mono ?_
  rintro e W24 ⟨rfl, hBl⟩
  replace hL := lv_below hL hBl
  clear hBl
  refine hK.out _ _ (lv_sub (sk (sd (sk (sk sn)))) hL) (fun hHeld2 => ?_)
  clear hK K hHeld
  have hHeld := hHeld2
  clear hHeld2
  try simp only [Act.put, o11_2_10, List.setIfInBounds_toArray, List.set_cons_zero, List.set_cons_succ]
  refine tk 11 o11_2_11 (v := ?_) ?_ ?_
  rotate_left
  · intro w hSw
    delta o11_2_11
    go_simp
    try with_reducible rfl
  try simp only [Act.put, o11_2_11, List.setIfInBounds_toArray, List.set_cons_zero, List.set_cons_succ]
  refine tk 12 o11_2_12 (v := ?_) ?_ ?_
  rotate_left
  · intro w hSw
    delta o11_2_12
    go_simp
    try with_reducible rfl
  try simp only [Act.put, o11_2_12, List.setIfInBounds_toArray, List.set_cons_zero, List.set_cons_succ]
  refine rd1 13 o11_2_13 (fun K hK => ?_)
  obtain ⟨k0, k1, k2, k3⟩ := lv_cells4 hL lm1
  have z0 := lv_frozen hL lm1 0
  have z1 := lv_frozen hL lm1 1
  have z2 := lv_frozen hL lm1 2
  have z3 := lv_frozen hL lm1 3
  delta o11_2_13
  go_simp
  clear k0 z0 k1 z1 k2 z2 k3 z3
  obtain ⟨V25, hVx, hL2⟩ : ∃ V, (World.setCell (World.setCell (World.setCell (World.setCell W24 ⟨B11, 0, none⟩ (.int .u64 (r 0))) ⟨B11, 1, none⟩ (.int .u64 (r 1))) ⟨B11, 2, none⟩ (.int .u64 (r 2))) ⟨B11, 3, none⟩ (.int .u64 (r 3))) = V ∧ Lv w [(B18, Obj.cells #[.int .u64 (r 0), .int .u64 (r 1), .int .u64 (r 2), .int .u64 (r 3)] 24 (0, 0)), (B11, Obj.cells #[.int .u64 (r 0), .int .u64 (r 1), .int .u64 (r 2), .int .u64 (r 3)] 24 (0, 0)), (B6, Obj.cells #[.int .u64 (b 0), .int .u64 (b 1), .int .u64 (b 2), .int .u64 (b 3)] 24 (0, 0)), (B2, Obj.cells #[.int .u64 (a 0), .int .u64 (a 1), .int .u64 (a 2), .int .u64 (a 3)] 24 (0, 0))] V := ⟨_, rfl, lv_store4 [(B18, Obj.cells #[.int .u64 (r 0), .int .u64 (r 1), .int .u64 (r 2), .int .u64 (r 3)] 24 (0, 0))] hL _ _ _ _⟩
  rw [hVx]
  clear hVx hL
  have hL := hL2
  clear hL2
  refine hK.out _ _ (lv_sub (sk (sd (sk (sk sn)))) hL) (fun hHeld2 => ?_)
  clear hK K hHeld
  have hHeld := hHeld2
  clear hHeld2
  try simp only [Act.put, o11_2_13, List.setIfInBounds_toArray, List.set_cons_zero, List.set_cons_succ]
  refine tk 14 o11_2_14 (v := ?_) ?_ ?_
  rotate_left
  · intro w hSw
    delta o11_2_14
    go_simp
    try with_reducible rfl
  try simp only [Act.put, o11_2_14, List.setIfInBounds_toArray, List.set_cons_zero, List.set_cons_succ]
  refine wpAnyH_done (by kernel_rfl) ?_ _
  clear hHeld
  go_wp2_with fail
  obtain ⟨k26, k27, k28, k29⟩ := lv_cells4 hL lm1
  refine bodyPost_ret (v := .tuple #[.agg #[.int .u64 (r 0), .int .u64 (r 1), .int .u64 (r 2), .int .u64 (r 3)], .bool true]) (by simp [results, Try.results11, go_sem, k26, k27, k28, k29]) rfl ⟨rfl, hL.2.2.2⟩

set_option maxRecDepth 100000 in
set_option maxHeartbeats 4000000 in
theorem refadd_012 (a b d e f r : Nat → Nat) (qr : Bool) (ha : Wds a) (hb : Wds b) (hd : Digs d) (he : Digs e)  (hf : Digs f) (hr : Wds r) (h1 : digR a = d) (h2 : digR b = e) (h3 : plusR d e 0 = f) (h4 : widR f = r) (h5 : lowB a = false) (h6 : lowB b = true) (h8 : lowB r = qr)  (w : World) :
    Calls Try.prog 11 #[.agg #[.int .u64 (a 0), .int .u64 (a 1), .int .u64 (a 2), .int .u64 (a 3)], .agg #[.int .u64 (b 0), .int .u64 (b 1), .int .u64 (b 2), .int .u64 (b 3)]] w fun ee w' => ee = .returned (.tuple #[.agg #[.int .u64 (r 0), .int .u64 (r 1), .int .u64 (r 2), .int .u64 (r 3)], .bool false]) ∧ Below w.heap.size w w' := by
  have Xh1 := Lib.hid h1
  have Xh2 := Lib.hid h2
  have Xh3 := Lib.hid h3
  have Xh4 := Lib.hid h4
  have Xh5 := Lib.hid h5
  have Xh6 := Lib.hid h6
  have Xh8 := Lib.hid h8
  clear h1 h2 h3 h4 h5 h6 h8
  have hL := lv_nil w
  go_enter Try.func11, Try.ntmps11
  go_wp2_with fail
  obtain ⟨V1, B2, hV3, hB4, hL⟩ := lv_grow hL (Obj.cells #[.int .u64 (a 0), .int .u64 (a 1), .int .u64 (a 2), .int .u64 (a 3)] 24)
  rw [hV3]
  try rw [hB4]
  obtain ⟨V5, B6, hV7, hB8, hL⟩ := lv_grow hL (Obj.cells #[.int .u64 (b 0), .int .u64 (b 1), .int .u64 (b 2), .int .u64 (b 3)] 24)
  rw [hV7]
  have hs9 : B2 + 1 = B6 := by rw [← hB8, ← hV3, World.size_alloc, hB4]
  try rw [hs9]
  clear hs9
  obtain ⟨V10, B11, hV12, hB13, hL⟩ := lv_grow hL (Obj.cells #[.int .u64 0, .int .u64 0, .int .u64 0, .int .u64 0] 24)
  rw [hV12]
  have hs14 : B6 + 1 = B11 := by rw [← hB13, ← hV7, World.size_alloc, hB8]
  try rw [hs14]
  clear hs14
  clear hV3 hB4 hV7 hB8 hV12 hB13
  refine Code.wp_mono ?_ (refadd_r1 w _ B11 B6 B2 a b d e f r ha hb hd he hf Xh1 Xh2 Xh3 Xh4  hL)
  rintro ee aa W17 ⟨rfl, B18, rfl, hL2⟩
  clear hL
  have hL := hL2
  clear hL2
  go_wp2_with fail
  refine wp_region_held_drew (S := fun W' => Lv w [(B18, Obj.cells #[.int .u64 (r 0), .int .u64 (r 1), .int .u64 (r 2), .int .u64 (r 3)] 24 (0, 0)), (B6, Obj.cells #[.int .u64 (b 0), .int .u64 (b 1), .int .u64 (b 2), .int .u64 (b 3)] 24 (0, 0)), (B2, Obj.cells #[.int .u64 (a 0), .int .u64 (a 1), .int .u64 (a 2), .int .u64 (a 3)] 24 (0, 0))] W') (by kernel_rfl) (lv_drew (lv_sub (sk (sd (sk (sk sn)))) hL)) (fun hHeld => ?_)
  replace hL := lv_drew hL
  obtain ⟨D19, hD20⟩ : ∃ W0, World.drew W17 = W0 := ⟨_, rfl⟩
  rw [hD20] at hHeld hL ⊢
  clear hD20
  refine tk 0 o11_2_0 (v := ?_) ?_ ?_
  rotate_left
  · intro w hSw
    obtain ⟨k0, k1, k2, k3⟩ := lv_cells4 hSw lm0
    delta o11_2_0
    go_simp
    try with_reducible rfl
  try simp only [Act.put, o11_2_0, List.setIfInBounds_toArray, List.set_cons_zero, List.set_cons_succ]
  refine tk 1 o11_2_1 (v := ?_) ?_ ?_
  rotate_left
  · intro w hSw
    obtain ⟨k0, k1, k2, k3⟩ := lv_cells4 hSw lm2
    delta o11_2_1
    go_simp
    try with_reducible rfl
  try simp only [Act.put, o11_2_1, List.setIfInBounds_toArray, List.set_cons_zero, List.set_cons_succ]
  refine tk 3 o11_2_3 (v := ?_) ?_ ?_
  rotate_left
  · intro w hSw
    obtain ⟨k0, k1, k2, k3⟩ := lv_cells4 hSw lm1
    delta o11_2_3
    go_simp
    try with_reducible rfl
  try simp only [Act.put, o11_2_3, List.setIfInBounds_toArray, List.set_cons_zero, List.set_cons_succ]
  refine rd1 2 o11_2_2 (fun K hK => ?_)
  delta o11_2_2
  go_simp
  refine (low_c ha Xh5.out _).mono ?_
  rintro e W21 ⟨rfl, hBl⟩
  replace hL := lv_below hL hBl
  clear hBl
  refine hK.out _ _ (lv_sub (sk (sd (sk (sk sn)))) hL) (fun hHeld2 => ?_)
  clear hK K hHeld
  have hHeld := hHeld2
  clear hHeld2
  try simp only [Act.put, o11_2_2, List.setIfInBounds_toArray, List.set_cons_zero, List.set_cons_succ]
  refine rd1 4 o11_2_4 (fun K hK => ?_)
  delta o11_2_4
  go_simp
  refine (low_c hb Xh6.out _).mono ?_
  rintro e W22 ⟨rfl, hBl⟩
  replace hL := lv_below hL hBl
  clear hBl
  refine hK.out _ _ (lv_sub (sk (sd (sk (sk sn)))) hL) (fun hHeld2 => ?_)
  clear hK K hHeld
  have hHeld := hHeld2
  clear hHeld2
  try simp only [Act.put, o11_2_4, List.setIfInBounds_toArray, List.set_cons_zero, List.set_cons_succ]
  refine tk 5 o11_2_5 (v := ?_) ?_ ?_
  rotate_left
  · intro w hSw
    delta o11_2_5
    go_simp
    try with_reducible rfl
  try simp only [Act.put, o11_2_5, List.setIfInBounds_toArray, List.set_cons_zero, List.set_cons_succ]
  refine tk 6 o11_2_6 (v := ?_) ?_ ?_
  rotate_left
  · intro w hSw
    delta o11_2_6
    go_simp
    try with_reducible rfl
  try simp only [Act.put, o11_2_6, List.setIfInBounds_toArray, List.set_cons_zero, List.set_cons_succ]
  refine tu 7 o11_2_7 ?_
  try simp only [Act.put, o11_2_7, List.setIfInBounds_toArray, List.set_cons_zero, List.set_cons_succ]
  refine tu 9 o11_2_9 ?_
  try simp only [Act.put, o11_2_9, List.setIfInBounds_toArray, List.set_cons_zero, List.set_cons_succ]
  refine rd1 8 o11_2_8 (fun K hK => ?_)
  delta o11_2_8
  go_simp
  refine hK.out _ _ hHeld (fun hHeld2 => ?_)
  clear hK K hHeld
  have hHeld := hHeld2
  clear hHeld2
  try simp only [Act.put, o11_2_8, List.setIfInBounds_toArray, List.set_cons_zero, List.set_cons_succ]
  refine rd1 10 o11_2_10 (fun K hK => ?_)
  delta o11_2_10
  go_simp
  refine hK.out _ _ hHeld (fun hHeld2 => ?_)
  clear hK K hHeld
  have hHeld := hHeld2
  clear hHeld2
  try simp only [Act.put, o11_2_10, List.setIfInBounds_toArray, List.set_cons_zero, List.set_cons_succ]
  refine tu 11 o11_2_11 ?_
  try simp only [Act.put, o11_2_11, List.setIfInBounds_toArray, List.set_cons_zero, List.set_cons_succ]
  refine tk 12 o11_2_12 (v := ?_) ?_ ?_
  rotate_left
  · intro w hSw
    delta o11_2_12
    go_simp
    try with_reducible rfl
  try simp only [Act.put, o11_2_12, List.setIfInBounds_toArray, List.set_cons_zero, List.set_cons_succ]
  refine rd1 13 o11_2_13 (fun K hK => ?_)
  obtain ⟨k0, k1, k2, k3⟩ := lv_cells4 hL lm1
  have z0 := lv_frozen hL lm1 0
  have z1 := lv_frozen hL lm1 1
  have z2 := lv_frozen hL lm1 2
  have z3 := lv_frozen hL lm1 3
  delta o11_2_13
  go_simp
  clear k0 z0 k1 z1 k2 z2 k3 z3
  obtain ⟨V23, hVx, hL2⟩ : ∃ V, (World.setCell (World.setCell (World.setCell (World.setCell W22 ⟨B11, 0, none⟩ (.int .u64 (r 0))) ⟨B11, 1, none⟩ (.int .u64 (r 1))) ⟨B11, 2, none⟩ (.int .u64 (r 2))) ⟨B11, 3, none⟩ (.int .u64 (r 3))) = V ∧ Lv w [(B18, Obj.cells #[.int .u64 (r 0), .int .u64 (r 1), .int .u64 (r 2), .int .u64 (r 3)] 24 (0, 0)), (B11, Obj.cells #[.int .u64 (r 0), .int .u64 (r 1), .int .u64 (r 2), .int .u64 (r 3)] 24 (0, 0)), (B6, Obj.cells #[.int .u64 (b 0), .int .u64 (b 1), .int .u64 (b 2), .int .u64 (b 3)] 24 (0, 0)), (B2, Obj.cells #[.int .u64 (a 0), .int .u64 (a 1), .int .u64 (a 2), .int .u64 (a 3)] 24 (0, 0))] V := ⟨_, rfl, lv_store4 [(B18, Obj.cells #[.int .u64 (r 0), .int .u64 (r 1), .int .u64 (r 2), .int .u64 (r 3)] 24 (0, 0))] hL _ _ _ _⟩
  rw [hVx]
  clear hVx hL
  have hL := hL2
  clear hL2
  refine hK.out _ _ (lv_sub (sk (sd (sk (sk sn)))) hL) (fun hHeld2 => ?_)
  clear hK K hHeld
  have hHeld := hHeld2
  clear hHeld2
  try simp only [Act.put, o11_2_13, List.setIfInBounds_toArray, List.set_cons_zero, List.set_cons_succ]
  refine tk 14 o11_2_14 (v := ?_) ?_ ?_
  rotate_left
  · intro w hSw
    delta o11_2_14
    go_simp
    try with_reducible rfl
  try simp only [Act.put, o11_2_14, List.setIfInBounds_toArray, List.set_cons_zero, List.set_cons_succ]
  refine wpAnyH_done (by kernel_rfl) ?_ _
  clear hHeld
  go_wp2_with fail
  obtain ⟨k24, k25, k26, k27⟩ := lv_cells4 hL lm1
  refine bodyPost_ret (v := .tuple #[.agg #[.int .u64 (r 0), .int .u64 (r 1), .int .u64 (r 2), .int .u64 (r 3)], .bool false]) (by simp [results, Try.results11, go_sem, k24, k25, k26, k27]) rfl ⟨rfl, hL.2.2.2⟩

set_option maxRecDepth 100000 in
set_option maxHeartbeats 4000000 in
theorem refadd_102 (a b d e f r : Nat → Nat) (qr : Bool) (ha : Wds a) (hb : Wds b) (hd : Digs d) (he : Digs e)  (hf : Digs f) (hr : Wds r) (h1 : digR a = d) (h2 : digR b = e) (h3 : plusR d e 0 = f) (h4 : widR f = r) (h5 : lowB a = true) (h6 : lowB b = false) (h8 : lowB r = qr)  (w : World) :
    Calls Try.prog 11 #[.agg #[.int .u64 (a 0), .int .u64 (a 1), .int .u64 (a 2), .int .u64 (a 3)], .agg #[.int .u64 (b 0), .int .u64 (b 1), .int .u64 (b 2), .int .u64 (b 3)]] w fun ee w' => ee = .returned (.tuple #[.agg #[.int .u64 (r 0), .int .u64 (r 1), .int .u64 (r 2), .int .u64 (r 3)], .bool false]) ∧ Below w.heap.size w w' := by
  have Xh1 := Lib.hid h1
  have Xh2 := Lib.hid h2
  have Xh3 := Lib.hid h3
  have Xh4 := Lib.hid h4
  have Xh5 := Lib.hid h5
  have Xh6 := Lib.hid h6
  have Xh8 := Lib.hid h8
  clear h1 h2 h3 h4 h5 h6 h8
  have hL := lv_nil w
  go_enter Try.func11, Try.ntmps11
  go_wp2_with fail
  obtain ⟨V1, B2, hV3, hB4, hL⟩ := lv_grow hL (Obj.cells #[.int .u64 (a 0), .int .u64 (a 1), .int .u64 (a 2), .int .u64 (a 3)] 24)
  rw [hV3]
  try rw [hB4]
  obtain ⟨V5, B6, hV7, hB8, hL⟩ := lv_grow hL (Obj.cells #[.int .u64 (b 0), .int .u64 (b 1), .int .u64 (b 2), .int .u64 (b 3)] 24)
  rw [hV7]
  have hs9 : B2 + 1 = B6 := by rw [← hB8, ← hV3, World.size_alloc, hB4]
  try rw [hs9]
  clear hs9
  obtain ⟨V10, B11, hV12, hB13, hL⟩ := lv_grow hL (Obj.cells #[.int .u64 0, .int .u64 0, .int .u64 0, .int .u64 0] 24)
  rw [hV12]
  have hs14 : B6 + 1 = B11 := by rw [← hB13, ← hV7, World.size_alloc, hB8]
  try rw [hs14]
  clear hs14
  clear hV3 hB4 hV7 hB8 hV12 hB13
  refine Code.wp_mono ?_ (refadd_r1 w _ B11 B6 B2 a b d e f r ha hb hd he hf Xh1 Xh2 Xh3 Xh4  hL)
  rintro ee aa W17 ⟨rfl, B18, rfl, hL2⟩
  clear hL
  have hL := hL2
  clear hL2
  go_wp2_with fail
  refine wp_region_held_drew (S := fun W' => Lv w [(B18, Obj.cells #[.int .u64 (r 0), .int .u64 (r 1), .int .u64 (r 2), .int .u64 (r 3)] 24 (0, 0)), (B6, Obj.cells #[.int .u64 (b 0), .int .u64 (b 1), .int .u64 (b 2), .int .u64 (b 3)] 24 (0, 0)), (B2, Obj.cells #[.int .u64 (a 0), .int .u64 (a 1), .int .u64 (a 2), .int .u64 (a 3)] 24 (0, 0))] W') (by kernel_rfl) (lv_drew (lv_sub (sk (sd (sk (sk sn)))) hL)) (fun hHeld => ?_)
  replace hL := lv_drew hL
  obtain ⟨D19, hD20⟩ : ∃ W0, World.drew W17 = W0 := ⟨_, rfl⟩
  rw [hD20] at hHeld hL ⊢
  clear hD20
  refine tk 0 o11_2_0 (v := ?_) ?_ ?_
  rotate_left
  · intro w hSw
    obtain ⟨k0, k1, k2, k3⟩ := lv_cells4 hSw lm0
    delta o11_2_0
    go_simp
    try with_reducible rfl
  try simp only [Act.put, o11_2_0, List.setIfInBounds_toArray, List.set_cons_zero, List.set_cons_succ]
  refine tk 1 o11_2_1 (v := ?_) ?_ ?_
  rotate_left
  · intro w hSw
    obtain ⟨k0, k1, k2, k3⟩ := lv_cells4 hSw lm2
    delta o11_2_1
    go_simp
    try with_reducible rfl
  try simp only [Act.put, o11_2_1, List.setIfInBounds_toArray, List.set_cons_zero, List.set_cons_succ]
  refine tk 3 o11_2_3 (v := ?_) ?_ ?_
  rotate_left
  · intro w hSw
    obtain ⟨k0, k1, k2, k3⟩ := lv_cells4 hSw lm1
    delta o11_2_3
    go_simp
    try with_reducible rfl
  try simp only [Act.put, o11_2_3, List.setIfInBounds_toArray, List.set_cons_zero, List.set_cons_succ]
  refine rd1 2 o11_2_2 (fun K hK => ?_)
  delta o11_2_2
  go_simp
  refine (low_c ha Xh5.out _).mono ?_
  rintro e W21 ⟨rfl, hBl⟩
  replace hL := lv_below hL hBl
  clear hBl
  refine hK.out _ _ (lv_sub (sk (sd (sk (sk sn)))) hL) (fun hHeld2 => ?_)
  clear hK K hHeld
  have hHeld := hHeld2
  clear hHeld2
  try simp only [Act.put, o11_2_2, List.setIfInBounds_toArray, List.set_cons_zero, List.set_cons_succ]
  refine rd1 4 o11_2_4 (fun K hK => ?_)
  delta o11_2_4
  go_simp
  refine (low_c hb Xh6.out _).mono ?_
  rintro e W22 ⟨rfl, hBl⟩
  replace hL := lv_below hL hBl
  clear hBl
  refine hK.out _ _ (lv_sub (sk (sd (sk (sk sn)))) hL) (fun hHeld2 => ?_)
  clear hK K hHeld
  have hHeld := hHeld2
  clear hHeld2
  try simp only [Act.put, o11_2_4, List.setIfInBounds_toArray, List.set_cons_zero, List.set_cons_succ]
  refine tk 5 o11_2_5 (v := ?_) ?_ ?_
  rotate_left
  · intro w hSw
    delta o11_2_5
    go_simp
    try with_reducible rfl
  try simp only [Act.put, o11_2_5, List.setIfInBounds_toArray, List.set_cons_zero, List.set_cons_succ]
  refine tk 6 o11_2_6 (v := ?_) ?_ ?_
  rotate_left
  · intro w hSw
    delta o11_2_6
    go_simp
    try with_reducible rfl
  try simp only [Act.put, o11_2_6, List.setIfInBounds_toArray, List.set_cons_zero, List.set_cons_succ]
  refine tu 7 o11_2_7 ?_
  try simp only [Act.put, o11_2_7, List.setIfInBounds_toArray, List.set_cons_zero, List.set_cons_succ]
  refine tu 9 o11_2_9 ?_
  try simp only [Act.put, o11_2_9, List.setIfInBounds_toArray, List.set_cons_zero, List.set_cons_succ]
  refine rd1 8 o11_2_8 (fun K hK => ?_)
  delta o11_2_8
  go_simp
  refine hK.out _ _ hHeld (fun hHeld2 => ?_)
  clear hK K hHeld
  have hHeld := hHeld2
  clear hHeld2
  try simp only [Act.put, o11_2_8, List.setIfInBounds_toArray, List.set_cons_zero, List.set_cons_succ]
  refine rd1 10 o11_2_10 (fun K hK => ?_)
  delta o11_2_10
  go_simp
  refine hK.out _ _ hHeld (fun hHeld2 => ?_)
  clear hK K hHeld
  have hHeld := hHeld2
  clear hHeld2
  try simp only [Act.put, o11_2_10, List.setIfInBounds_toArray, List.set_cons_zero, List.set_cons_succ]
  refine tu 11 o11_2_11 ?_
  try simp only [Act.put, o11_2_11, List.setIfInBounds_toArray, List.set_cons_zero, List.set_cons_succ]
  refine tk 12 o11_2_12 (v := ?_) ?_ ?_
  rotate_left
  · intro w hSw
    delta o11_2_12
    go_simp
    try with_reducible rfl
  try simp only [Act.put, o11_2_12, List.setIfInBounds_toArray, List.set_cons_zero, List.set_cons_succ]
  refine rd1 13 o11_2_13 (fun K hK => ?_)
  obtain ⟨k0, k1, k2, k3⟩ := lv_cells4 hL lm1
  have z0 := lv_frozen hL lm1 0
  have z1 := lv_frozen hL lm1 1
  have z2 := lv_frozen hL lm1 2
  have z3 := lv_frozen hL lm1 3
  delta o11_2_13
  go_simp
  clear k0 z0 k1 z1 k2 z2 k3 z3
  obtain ⟨V23, hVx, hL2⟩ : ∃ V, (World.setCell (World.setCell (World.setCell (World.setCell W22 ⟨B11, 0, none⟩ (.int .u64 (r 0))) ⟨B11, 1, none⟩ (.int .u64 (r 1))) ⟨B11, 2, none⟩ (.int .u64 (r 2))) ⟨B11, 3, none⟩ (.int .u64 (r 3))) = V ∧ Lv w [(B18, Obj.cells #[.int .u64 (r 0), .int .u64 (r 1), .int .u64 (r 2), .int .u64 (r 3)] 24 (0, 0)), (B11, Obj.cells #[.int .u64 (r 0), .int .u64 (r 1), .int .u64 (r 2), .int .u64 (r 3)] 24 (0, 0)), (B6, Obj.cells #[.int .u64 (b 0), .int .u64 (b 1), .int .u64 (b 2), .int .u64 (b 3)] 24 (0, 0)), (B2, Obj.cells #[.int .u64 (a 0), .int .u64 (a 1), .int .u64 (a 2), .int .u64 (a 3)] 24 (0, 0))] V := ⟨_, rfl, lv_store4 [(B18, Obj.cells #[.int .u64 (r 0), .int .u64 (r 1), .int .u64 (r 2), .int .u64 (r 3)] 24 (0, 0))] hL _ _ _ _⟩
  rw [hVx]
  clear hVx hL
  have hL := hL2
  clear hL2
  refine hK.out _ _ (lv_sub (sk (sd (sk (sk sn)))) hL) (fun hHeld2 => ?_)
  clear hK K hHeld
  have hHeld := hHeld2
  clear hHeld2
  try simp only [Act.put, o11_2_13, List.setIfInBounds_toArray, List.set_cons_zero, List.set_cons_succ]
  refine tk 14 o11_2_14 (v := ?_) ?_ ?_
  rotate_left
  · intro w hSw
    delta o11_2_14
    go_simp
    try with_reducible rfl
  try simp only [Act.put, o11_2_14, List.setIfInBounds_toArray, List.set_cons_zero, List.set_cons_succ]
  refine wpAnyH_done (by kernel_rfl) ?_ _
  clear hHeld
  go_wp2_with fail
  obtain ⟨k24, k25, k26, k27⟩ := lv_cells4 hL lm1
  refine bodyPost_ret (v := .tuple #[.agg #[.int .u64 (r 0), .int .u64 (r 1), .int .u64 (r 2), .int .u64 (r 3)], .bool false]) (by simp [results, Try.results11, go_sem, k24, k25, k26, k27]) rfl ⟨rfl, hL.2.2.2⟩

set_option maxRecDepth 100000 in
set_option maxHeartbeats 4000000 in
theorem refadd_110 (a b d e f r : Nat → Nat) (ha : Wds a) (hb : Wds b) (hd : Digs d) (he : Digs e)  (hf : Digs f) (hr : Wds r) (h1 : digR a = d) (h2 : digR b = e) (h3 : plusR d e 0 = f) (h4 : widR f = r) (h5 : lowB a = true) (h6 : lowB b = true) (h8 : lowB r = false)  (w : World) :
    Calls Try.prog 11 #[.agg #[.int .u64 (a 0), .int .u64 (a 1), .int .u64 (a 2), .int .u64 (a 3)], .agg #[.int .u64 (b 0), .int .u64 (b 1), .int .u64 (b 2), .int .u64 (b 3)]] w fun ee w' => ee = .returned (.tuple #[.agg #[.int .u64 (r 0), .int .u64 (r 1), .int .u64 (r 2), .int .u64 (r 3)], .bool true]) ∧ Below w.heap.size w w' := by
  have Xh1 := Lib.hid h1
  have Xh2 := Lib.hid h2
  have Xh3 := Lib.hid h3
  have Xh4 := Lib.hid h4
  have Xh5 := Lib.hid h5
  have Xh6 := Lib.hid h6
  have Xh8 := Lib.hid h8
  clear h1 h2 h3 h4 h5 h6 h8
  have hL := lv_nil w
  go_enter Try.func11, Try.ntmps11
  go_wp2_with fail
  obtain ⟨V1, B2, hV3, hB4, hL⟩ := lv_grow hL (Obj.cells #[.int .u64 (a 0), .int .u64 (a 1), .int .u64 (a 2), .int .u64 (a 3)] 24)
  rw [hV3]
  try rw [hB4]
  obtain ⟨V5, B6, hV7, hB8, hL⟩ := lv_grow hL (Obj.cells #[.int .u64 (b 0), .int .u64 (b 1), .int .u64 (b 2), .int .u64 (b 3)] 24)
  rw [hV7]
  have hs9 : B2 + 1 = B6 := by rw [← hB8, ← hV3, World.size_alloc, hB4]
  try rw [hs9]
  clear hs9
  obtain ⟨V10, B11, hV12, hB13, hL⟩ := lv_grow hL (Obj.cells #[.int .u64 0, .int .u64 0, .int .u64 0, .int .u64 0] 24)
  rw [hV12]
  have hs14 : B6 + 1 = B11 := by rw [← hB13, ← hV7, World.size_alloc, hB8]
  try rw [hs14]
  clear hs14
  clear hV3 hB4 hV7 hB8 hV12 hB13
  refine Code.wp_mono ?_ (refadd_r1 w _ B11 B6 B2 a b d e f r ha hb hd he hf Xh1 Xh2 Xh3 Xh4  hL)
  rintro ee aa W17 ⟨rfl, B18, rfl, hL2⟩
  clear hL
  have hL := hL2
  clear hL2
  go_wp2_with fail
  refine wp_region_held_drew (S := fun W' => Lv w [(B18, Obj.cells #[.int .u64 (r 0), .int .u64 (r 1), .int .u64 (r 2), .int .u64 (r 3)] 24 (0, 0)), (B6, Obj.cells #[.int .u64 (b 0), .int .u64 (b 1), .int .u64 (b 2), .int .u64 (b 3)] 24 (0, 0)), (B2, Obj.cells #[.int .u64 (a 0), .int .u64 (a 1), .int .u64 (a 2), .int .u64 (a 3)] 24 (0, 0))] W') (by kernel_rfl) (lv_drew (lv_sub (sk (sd (sk (sk sn)))) hL)) (fun hHeld => ?_)
  replace hL := lv_drew hL
  obtain ⟨D19, hD20⟩ : ∃ W0, World.drew W17 = W0 := ⟨_, rfl⟩
  rw [hD20] at hHeld hL ⊢
  clear hD20
  refine tk 0 o11_2_0 (v := ?_) ?_ ?_
  rotate_left
  · intro w hSw
    obtain ⟨k0, k1, k2, k3⟩ := lv_cells4 hSw lm0
    delta o11_2_0
    go_simp
    try with_reducible rfl
  try simp only [Act.put, o11_2_0, List.setIfInBounds_toArray, List.set_cons_zero, List.set_cons_succ]
  refine tk 1 o11_2_1 (v := ?_) ?_ ?_
  rotate_left
  · intro w hSw
    obtain ⟨k0, k1, k2, k3⟩ := lv_cells4 hSw lm2
    delta o11_2_1
    go_simp
    try with_reducible rfl
  try simp only [Act.put, o11_2_1, List.setIfInBounds_toArray, List.set_cons_zero, List.set_cons_succ]
  refine tk 3 o11_2_3 (v := ?_) ?_ ?_
  rotate_left
  · intro w hSw
    obtain ⟨k0, k1, k2, k3⟩ := lv_cells4 hSw lm1
    delta o11_2_3
    go_simp
    try with_reducible rfl
  try simp only [Act.put, o11_2_3, List.setIfInBounds_toArray, List.set_cons_zero, List.set_cons_succ]
  refine rd1 2 o11_2_2 (fun K hK => ?_)
  delta o11_2_2
  go_simp
  refine (low_c ha Xh5.out _).mono ?_
  rintro e W21 ⟨rfl, hBl⟩
  replace hL := lv_below hL hBl
  clear hBl
  refine hK.out _ _ (lv_sub (sk (sd (sk (sk sn)))) hL) (fun hHeld2 => ?_)
  clear hK K hHeld
  have hHeld := hHeld2
  clear hHeld2
  try simp only [Act.put, o11_2_2, List.setIfInBounds_toArray, List.set_cons_zero, List.set_cons_succ]
  refine rd1 4 o11_2_4 (fun K hK => ?_)
  delta o11_2_4
  go_simp
  refine (low_c hb Xh6.out _).mono ?_
  rintro e W22 ⟨rfl, hBl⟩
  replace hL := lv_below hL hBl
  clear hBl
  refine hK.out _ _ (lv_sub (sk (sd (sk (sk sn)))) hL) (fun hHeld2 => ?_)
  clear hK K hHeld
  have hHeld := hHeld2
  clear hHeld2
  try simp only [Act.put, o11_2_4, List.setIfInBounds_toArray, List.set_cons_zero, List.set_cons_succ]
  refine tk 5 o11_2_5 (v := ?_) ?_ ?_
  rotate_left
  · intro w hSw
    delta o11_2_5
    go_simp
    try with_reducible rfl
  try simp only [Act.put, o11_2_5, List.setIfInBounds_toArray, List.set_cons_zero, List.set_cons_succ]
  refine tk 6 o11_2_6 (v := ?_) ?_ ?_
  rotate_left
  · intro w hSw
    delta o11_2_6
    go_simp
    try with_reducible rfl
  try simp only [Act.put, o11_2_6, List.setIfInBounds_toArray, List.set_cons_zero, List.set_cons_succ]
  refine tk 7 o11_2_7 (v := ?_) ?_ ?_
  rotate_left
  · intro w hSw
    obtain ⟨k0, k1, k2, k3⟩ := lv_cells4 hSw lm0
    delta o11_2_7
    go_simp
    try with_reducible rfl
  try simp only [Act.put, o11_2_7, List.setIfInBounds_toArray, List.set_cons_zero, List.set_cons_succ]
  refine tk 9 o11_2_9 (v := ?_) ?_ ?_
  rotate_left
  · intro w hSw
    obtain ⟨k0, k1, k2, k3⟩ := lv_cells4 hSw lm2
    delta o11_2_9
    go_simp
    try with_reducible rfl
  try simp only [Act.put, o11_2_9, List.setIfInBounds_toArray, List.set_cons_zero, List.set_cons_succ]
  refine rd1 8 o11_2_8 (fun K hK => ?_)
  delta o11_2_8
  go_simp
  refine (low_c hr Xh8.out _).mono ?_
  rintro e W23 ⟨rfl, hBl⟩
  replace hL := lv_below hL hBl
  clear hBl
  refine hK.out _ _ (lv_sub (sk (sd (sk (sk sn)))) hL) (fun hHeld2 => ?_)
  clear hK K hHeld
  have hHeld := hHeld2
  clear hHeld2
  try simp only [Act.put, o11_2_8, List.setIfInBounds_toArray, List.set_cons_zero, List.set_cons_succ]
  refine rd1 10 o11_2_10 (fun K hK => ?_)
  delta o11_2_10
  go_simp
  refine (low_c ha Xh5.out _).mono ?_
  rintro e W24 ⟨rfl, hBl⟩
  replace hL := lv_below hL hBl
  clear hBl
  refine hK.out _ _ (lv_sub (sk (sd (sk (sk sn)))) hL) (fun hHeld2 => ?_)
  clear hK K hHeld
  have hHeld := hHeld2
  clear hHeld2
  try simp only [Act.put, o11_2_10, List.setIfInBounds_toArray, List.set_cons_zero, List.set_cons_succ]
  refine tk 11 o11_2_11 (v := ?_) ?_ ?_
  rotate_left
  · intro w hSw
    delta o11_2_11
    go_simp
    try with_reducible rfl
  try simp only [Act.put, o11_2_11, List.setIfInBounds_toArray, List.set_cons_zero, List.set_cons_succ]
  refine tk 12 o11_2_12 (v := ?_) ?_ ?_
  rotate_left
  · intro w hSw
    delta o11_2_12
    go_simp
    try with_reducible rfl
  try simp only [Act.put, o11_2_12, List.setIfInBounds_toArray, List.set_cons_zero, List.set_cons_succ]
  refine rd1 13 o11_2_13 (fun K hK => ?_)
  obtain ⟨k0, k1, k2, k3⟩ := lv_cells4 hL lm1
  have z0 := lv_frozen hL lm1 0
  have z1 := lv_frozen hL lm1 1
  have z2 := lv_frozen hL lm1 2
  have z3 := lv_frozen hL lm1 3
  delta o11_2_13
  go_simp
  clear k0 z0 k1 z1 k2 z2 k3 z3
  obtain ⟨V25, hVx, hL2⟩ : ∃ V, (World.setCell (World.setCell (World.setCell (World.setCell W24 ⟨B11, 0, none⟩ (.int .u64 (r 0))) ⟨B11, 1, none⟩ (.int .u64 (r 1))) ⟨B11, 2, none⟩ (.int .u64 (r 2))) ⟨B11, 3, none⟩ (.int .u64 (r 3))) = V ∧ Lv w [(B18, Obj.cells #[.int .u64 (r 0), .int .u64 (r 1), .int .u64 (r 2), .int .u64 (r 3)] 24 (0, 0)), (B11, Obj.cells #[.int .u64 (r 0), .int .u64 (r 1), .int .u64 (r 2), .int .u64 (r 3)] 24 (0, 0)), (B6, Obj.cells #[.int .u64 (b 0), .int .u64 (b 1), .int .u64 (b 2), .int .u64 (b 3)] 24 (0, 0)), (B2, Obj.cells #[.int .u64 (a 0), .int .u64 (a 1), .int .u64 (a 2), .int .u64 (a 3)] 24 (0, 0))] V := ⟨_, rfl, lv_store4 [(B18, Obj.cells #[.int .u64 (r 0), .int .u64 (r 1), .int .u64 (r 2), .int .u64 (r 3)] 24 (0, 0))] hL _ _ _ _⟩
  rw [hVx]
  clear hVx hL
  have hL := hL2
  clear hL2
  refine hK.out _ _ (lv_sub (sk (sd (sk (sk sn)))) hL) (fun hHeld2 => ?_)
  clear hK K hHeld
  have hHeld := hHeld2
  clear hHeld2
  try simp only [Act.put, o11_2_13, List.setIfInBounds_toArray, List.set_cons_zero, List.set_cons_succ]
  refine tk 14 o11_2_14 (v := ?_) ?_ ?_
  rotate_left
  · intro w hSw
    delta o11_2_14
    go_simp
    try with_reducible rfl
  try simp only [Act.put, o11_2_14, List.setIfInBounds_toArray, List.set_cons_zero, List.set_cons_succ]
  refine wpAnyH_done (by kernel_rfl) ?_ _
  clear hHeld
  go_wp2_with fail
  obtain ⟨k26, k27, k28, k29⟩ := lv_cells4 hL lm1
  refine bodyPost_ret (v := .tuple #[.agg #[.int .u64 (r 0), .int .u64 (r 1), .int .u64 (r 2), .int .u64 (r 3)], .bool true]) (by simp [results, Try.results11, go_sem, k26, k27, k28, k29]) rfl ⟨rfl, hL.2.2.2⟩

set_option maxRecDepth 100000 in
set_option maxHeartbeats 4000000 in
theorem refadd_111 (a b d e f r : Nat → Nat) (ha : Wds a) (hb : Wds b) (hd : Digs d) (he : Digs e)  (hf : Digs f) (hr : Wds r) (h1 : digR a = d) (h2 : digR b = e) (h3 : plusR d e 0 = f) (h4 : widR f = r) (h5 : lowB a = true) (h6 : lowB b = true) (h8 : lowB r = true)  (w : World) :
    Calls Try.prog 11 #[.agg #[.int .u64 (a 0), .int .u64 (a 1), .int .u64 (a 2), .int .u64 (a 3)], .agg #[.int .u64 (b 0), .int .u64 (b 1), .int .u64 (b 2), .int .u64 (b 3)]] w fun ee w' => ee = .returned (.tuple #[.agg #[.int .u64 (r 0), .int .u64 (r 1), .int .u64 (r 2), .int .u64 (r 3)], .bool false]) ∧ Below w.heap.size w w' := by
  have Xh1 := Lib.hid h1
  have Xh2 := Lib.hid h2
  have Xh3 := Lib.hid h3
  have Xh4 := Lib.hid h4
  have Xh5 := Lib.hid h5
  have Xh6 := Lib.hid h6
  have Xh8 := Lib.hid h8
  clear h1 h2 h3 h4 h5 h6 h8
  have hL := lv_nil w
  go_enter Try.func11, Try.ntmps11
  go_wp2_with fail
  obtain ⟨V1, B2, hV3, hB4, hL⟩ := lv_grow hL (Obj.cells #[.int .u64 (a 0), .int .u64 (a 1), .int .u64 (a 2), .int .u64 (a 3)] 24)
  rw [hV3]
  try rw [hB4]
  obtain ⟨V5, B6, hV7, hB8, hL⟩ := lv_grow hL (Obj.cells #[.int .u64 (b 0), .int .u64 (b 1), .int .u64 (b 2), .int .u64 (b 3)] 24)
  rw [hV7]
  have hs9 : B2 + 1 = B6 := by rw [← hB8, ← hV3, World.size_alloc, hB4]
  try rw [hs9]
  clear hs9
  obtain ⟨V10, B11, hV12, hB13, hL⟩ := lv_grow hL (Obj.cells #[.int .u64 0, .int .u64 0, .int .u64 0, .int .u64 0] 24)
  rw [hV12]
  have hs14 : B6 + 1 = B11 := by rw [← hB13, ← hV7, World.size_alloc, hB8]
  try rw [hs14]
  clear hs14
  clear hV3 hB4 hV7 hB8 hV12 hB13
  refine Code.wp_mono ?_ (refadd_r1 w _ B11 B6 B2 a b d e f r ha hb hd he hf Xh1 Xh2 Xh3 Xh4  hL)
  rintro ee aa W17 ⟨rfl, B18, rfl, hL2⟩
  clear hL
  have hL := hL2
  clear hL2
  go_wp2_with fail
  refine wp_region_held_drew (S := fun W' => Lv w [(B18, Obj.cells #[.int .u64 (r 0), .int .u64 (r 1), .int .u64 (r 2), .int .u64 (r 3)] 24 (0, 0)), (B6, Obj.cells #[.int .u64 (b 0), .int .u64 (b 1), .int .u64 (b 2), .int .u64 (b 3)] 24 (0, 0)), (B2, Obj.cells #[.int .u64 (a 0), .int .u64 (a 1), .int .u64 (a 2), .int .u64 (a 3)] 24 (0, 0))] W') (by kernel_rfl) (lv_drew (lv_sub (sk (sd (sk (sk sn)))) hL)) (fun hHeld => ?_)
  replace hL := lv_drew hL
  obtain ⟨D19, hD20⟩ : ∃ W0, World.drew W17 = W0 := ⟨_, rfl⟩
  rw [hD20] at hHeld hL ⊢
  clear hD20
  refine tk 0 o11_2_0 (v := ?_) ?_ ?_
  rotate_left
  · intro w hSw
    obtain ⟨k0, k1, k2, k3⟩ := lv_cells4 hSw lm0
    delta o11_2_0
    go_simp
    try with_reducible rfl
  try simp only [Act.put, o11_2_0, List.setIfInBounds_toArray, List.set_cons_zero, List.set_cons_succ]
  refine tk 1 o11_2_1 (v := ?_) ?_ ?_
  rotate_left
  · intro w hSw
    obtain ⟨k0, k1, k2, k3⟩ := lv_cells4 hSw lm2
    delta o11_2_1
    go_simp
    try with_reducible rfl
  try simp only [Act.put, o11_2_1, List.setIfInBounds_toArray, List.set_cons_zero, List.set_cons_succ]
  refine tk 3 o11_2_3 (v := ?_) ?_ ?_
  rotate_left
  · intro w hSw
    obtain ⟨k0, k1, k2, k3⟩ := lv_cells4 hSw lm1
    delta o11_2_3
    go_simp
    try with_reducible rfl
  try simp only [Act.put, o11_2_3, List.setIfInBounds_toArray, List.set_cons_zero, List.set_cons_succ]
  refine rd1 2 o11_2_2 (fun K hK => ?_)
  delta o11_2_2
  go_simp
  refine (low_c ha Xh5.out _).mono ?_
  rintro e W21 ⟨rfl, hBl⟩
  replace hL := lv_below hL hBl
  clear hBl
  refine hK.out _ _ (lv_sub (sk (sd (sk (sk sn)))) hL) (fun hHeld2 => ?_)
  clear hK K hHeld
  have hHeld := hHeld2
  clear hHeld2
  try simp only [Act.put, o11_2_2, List.setIfInBounds_toArray, List.set_cons_zero, List.set_cons_succ]
  refine rd1 4 o11_2_4 (fun K hK => ?_)
  delta o11_2_4
  go_simp
  refine (low_c hb Xh6.out _).mono ?_
  rintro e W22 ⟨rfl, hBl⟩
  replace hL := lv_below hL hBl
  clear hBl
  refine hK.out _ _ (lv_sub (sk (sd (sk (sk sn)))) hL) (fun hHeld2 => ?_)
  clear hK K hHeld
  have hHeld := hHeld2
  clear hHeld2
  try simp only [Act.put, o11_2_4, List.setIfInBounds_toArray, List.set_cons_zero, List.set_cons_succ]
  refine tk 5 o11_2_5 (v := ?_) ?_ ?_
  rotate_left
  · intro w hSw
    delta o11_2_5
    go_simp
    try with_reducible rfl
  try simp only [Act.put, o11_2_5, List.setIfInBounds_toArray, List.set_cons_zero, List.set_cons_succ]
  refine tk 6 o11_2_6 (v := ?_) ?_ ?_
  rotate_left
  · intro w hSw
    delta o11_2_6
    go_simp
    try with_reducible rfl
  try simp only [Act.put, o11_2_6, List.setIfInBounds_toArray, List.set_cons_zero, List.set_cons_succ]
  refine tk 7 o11_2_7 (v := ?_) ?_ ?_
  rotate_left
  · intro w hSw
    obtain ⟨k0, k1, k2, k3⟩ := lv_cells4 hSw lm0
    delta o11_2_7
    go_simp
    try with_reducible rfl
  try simp only [Act.put, o11_2_7, List.setIfInBounds_toArray, List.set_cons_zero, List.set_cons_succ]
  refine tk 9 o11_2_9 (v := ?_) ?_ ?_
  rotate_left
  · intro w hSw
    obtain ⟨k0, k1, k2, k3⟩ := lv_cells4 hSw lm2
    delta o11_2_9
    go_simp
    try with_reducible rfl
  try simp only [Act.put, o11_2_9, List.setIfInBounds_toArray, List.set_cons_zero, List.set_cons_succ]
  refine rd1 8 o11_2_8 (fun K hK => ?_)
  delta o11_2_8
  go_simp
  refine (low_c hr Xh8.out _).mono ?_
  rintro e W23 ⟨rfl, hBl⟩
  replace hL := lv_below hL hBl
  clear hBl
  refine hK.out _ _ (lv_sub (sk (sd (sk (sk sn)))) hL) (fun hHeld2 => ?_)
  clear hK K hHeld
  have hHeld := hHeld2
  clear hHeld2
  try simp only [Act.put, o11_2_8, List.setIfInBounds_toArray, List.set_cons_zero, List.set_cons_succ]
  refine rd1 10 o11_2_10 (fun K hK => ?_)
  delta o11_2_10
  go_simp
  refine (low_c ha Xh5.out _).mono ?_
  rintro e W24 ⟨rfl, hBl⟩
  replace hL := lv_below hL hBl
  clear hBl
  refine hK.out _ _ (lv_sub (sk (sd (sk (sk sn)))) hL) (fun hHeld2 => ?_)
  clear hK K hHeld
  have hHeld := hHeld2
  clear hHeld2
  try simp only [Act.put, o11_2_10, List.setIfInBounds_toArray, List.set_cons_zero, List.set_cons_succ]
  refine tk 11 o11_2_11 (v := ?_) ?_ ?_
  rotate_left
  · intro w hSw
    delta o11_2_11
    go_simp
    try with_reducible rfl
  try simp only [Act.put, o11_2_11, List.setIfInBounds_toArray, List.set_cons_zero, List.set_cons_succ]
  refine tk 12 o11_2_12 (v := ?_) ?_ ?_
  rotate_left
  · intro w hSw
    delta o11_2_12
    go_simp
    try with_reducible rfl
  try simp only [Act.put, o11_2_12, List.setIfInBounds_toArray, List.set_cons_zero, List.set_cons_succ]
  refine rd1 13 o11_2_13 (fun K hK => ?_)
  obtain ⟨k0, k1, k2, k3⟩ := lv_cells4 hL lm1
  have z0 := lv_frozen hL lm1 0
  have z1 := lv_frozen hL lm1 1
  have z2 := lv_frozen hL lm1 2
  have z3 := lv_frozen hL lm1 3
  delta o11_2_13
  go_simp
  clear k0 z0 k1 z1 k2 z2 k3 z3
  obtain ⟨V25, hVx, hL2⟩ : ∃ V, (World.setCell (World.setCell (World.setCell (World.setCell W24 ⟨B11, 0, none⟩ (.int .u64 (r 0))) ⟨B11, 1, none⟩ (.int .u64 (r 1))) ⟨B11, 2, none⟩ (.int .u64 (r 2))) ⟨B11, 3, none⟩ (.int .u64 (r 3))) = V ∧ Lv w [(B18, Obj.cells #[.int .u64 (r 0), .int .u64 (r 1), .int .u64 (r 2), .int .u64 (r 3)] 24 (0, 0)), (B11, Obj.cells #[.int .u64 (r 0), .int .u64 (r 1), .int .u64 (r 2), .int .u64 (r 3)] 24 (0, 0)), (B6, Obj.cells #[.int .u64 (b 0), .int .u64 (b 1), .int .u64 (b 2), .int .u64 (b 3)] 24 (0, 0)), (B2, Obj.cells #[.int .u64 (a 0), .int .u64 (a 1), .int .u64 (a 2), .int .u64 (a 3)] 24 (0, 0))] V := ⟨_, rfl, lv_store4 [(B18, Obj.cells #[.int .u64 (r 0), .int .u64 (r 1), .int .u64 (r 2), .int .u64 (r 3)] 24 (0, 0))] hL _ _ _ _⟩
  rw [hVx]
  clear hVx hL
  have hL := hL2
  clear hL2
  refine hK.out _ _ (lv_sub (sk (sd (sk (sk sn)))) hL) (fun hHeld2 => ?_)
  clear hK K hHeld
  have hHeld := hHeld2
  clear hHeld2
  try simp only [Act.put, o11_2_13, List.setIfInBounds_toArray, List.set_cons_zero, List.set_cons_succ]
  refine tk 14 o11_2_14 (v := ?_) ?_ ?_
  rotate_left
  · intro w hSw
    delta o11_2_14
    go_simp
    try with_reducible rfl
  try simp only [Act.put, o11_2_14, List.setIfInBounds_toArray, List.set_cons_zero, List.set_cons_succ]
  refine wpAnyH_done (by kernel_rfl) ?_ _
  clear hHeld
  go_wp2_with fail
  obtain ⟨k26, k27, k28, k29⟩ := lv_cells4 hL lm1
  refine bodyPost_ret (v := .tuple #[.agg #[.int .u64 (r 0), .int .u64 (r 1), .int .u64 (r 2), .int .u64 (r 3)], .bool false]) (by simp [results, Try.results11, go_sem, k26, k27, k28, k29]) rfl ⟨rfl, hL.2.2.2⟩

def o13_1_0 : Oper := { dst := some 7, op := Go.Op.load 24 (Go.Operand.tmp 2), type := 24, pos := "ref.go:74", after := #[], guard := none }
def o13_1_1 : Oper := { dst := some 8, op := Go.Op.call { callee := Go.Callee.value (Go.Operand.func 51), args := #[Go.Operand.tmp 7], argTypes := #[24] }, type := 54, pos := "ref.go:74", after := #[{ on := 0, ground := Go.Ground.data }], guard := none }
def o13_1_2 : Oper := { dst := some 9, op := Go.Op.load 24 (Go.Operand.tmp 3), type := 24, pos := "ref.go:74", after := #[], guard := none }
def o13_1_3 : Oper := { dst := some 10, op := Go.Op.call { callee := Go.Callee.value (Go.Operand.func 51), args := #[Go.Operand.tmp 9], argTypes := #[24] }, type := 54, pos := "ref.go:74", after := #[{ on := 2, ground := Go.Ground.data }, { on := 1, ground := Go.Ground.chain }], guard := none }
def o13_1_4 : Oper := { dst := some 11, op := Go.Op.call { callee := Go.Callee.value (Go.Operand.func 54), args := #[Go.Operand.tmp 10], argTypes := #[54] }, type := 54, pos := "ref.go:74", after := #[{ on := 3, ground := Go.Ground.data }, { on := 3, ground := Go.Ground.chain }], guard := none }
def o13_1_5 : Oper := { dst := some 12, op := Go.Op.call { callee := Go.Callee.value (Go.Operand.func 50), args := #[Go.Operand.tmp 8, Go.Operand.tmp 11, Go.Operand.const (Go.Value.int Go.IntKind.u64 1)], argTypes := #[54, 54, 22] }, type := 54, pos := "ref.go:74", after := #[{ on := 1, ground := Go.Ground.data }, { on := 4, ground := Go.Ground.data }, { on := 4, ground := Go.Ground.chain }], guard := none }
def o13_1_6 : Oper := { dst := some 13, op := Go.Op.call { callee := Go.Callee.value (Go.Operand.func 49), args := #[Go.Operand.tmp 12], argTypes := #[54] }, type := 24, pos := "ref.go:74", after := #[{ on := 5, ground := Go.Ground.data }, { on := 5, ground := Go.Ground.chain }], guard := none }
def o13_1_7 : Oper := { dst := some 6, op := Go.Op.alloc 24, type := 0, pos := "ref.go:74", after := #[], guard := none }
def o13_1_8 : Oper := { dst := none, op := Go.Op.store 24 (Go.Operand.tmp 6) (Go.Operand.tmp 13), type := 0, pos := "ref.go:74", after := #[{ on := 7, ground := Go.Ground.data }, { on := 6, ground := Go.Ground.data }, { on := 6, ground := Go.Ground.chain }, { on := 0, ground := Go.Ground.phase }, { on := 1, ground := Go.Ground.phase }, { on := 2, ground := Go.Ground.phase }, { on := 3, ground := Go.Ground.phase }, { on := 4, ground := Go.Ground.phase }, { on := 5, ground := Go.Ground.phase }, { on := 6, ground := Go.Ground.phase }, { on := 7, ground := Go.Ground.phase }], guard := none }
attribute [local go_sem] o13_1_0 o13_1_1 o13_1_2 o13_1_3 o13_1_4 o13_1_5 o13_1_6 o13_1_7 o13_1_8
def o13_2_0 : Oper := { dst := some 14, op := Go.Op.load 24 (Go.Operand.tmp 6), type := 24, pos := "ref.go:75", after := #[], guard := none }
def o13_2_1 : Oper := { dst := some 15, op := Go.Op.load 24 (Go.Operand.tmp 2), type := 24, pos := "ref.go:75", after := #[], guard := none }
def o13_2_2 : Oper := { dst := some 16, op := Go.Op.call { callee := Go.Callee.value (Go.Operand.func 52), args := #[Go.Operand.tmp 15], argTypes := #[24] }, type := 4, pos := "ref.go:75", after := #[{ on := 1, ground := Go.Ground.data }], guard := none }
def o13_2_3 : Oper := { dst := some 17, op := Go.Op.load 24 (Go.Operand.tmp 3), type := 24, pos := "ref.go:75", after := #[], guard := none }
def o13_2_4 : Oper := { dst := some 18, op := Go.Op.call { callee := Go.Callee.value (Go.Operand.func 52), args := #[Go.Operand.tmp 17], argTypes := #[24] }, type := 4, pos := "ref.go:75", after := #[{ on := 3, ground := Go.Ground.data }, { on := 2, ground := Go.Ground.chain }], guard := none }
def o13_2_5 : Oper := { dst := some 19, op := Go.Op.binOp Go.BinOp.neq 4 (Go.Operand.tmp 16) (Go.Operand.tmp 18) 4, type := 4, pos := "ref.go:75", after := #[{ on := 2, ground := Go.Ground.data }, { on := 4, ground := Go.Ground.data }], guard := none }
def o13_2_6 : Oper := { dst := some 20, op := Go.Op.move (Go.Operand.tmp 19), type := 4, pos := "ref.go:75", after := #[{ on := 5, ground := Go.Ground.data }, { on := 4, ground := Go.Ground.chain }], guard := none }
def o13_2_7 : Oper := { dst := some 21, op := Go.Op.load 24 (Go.Operand.tmp 6), type := 24, pos := "ref.go:75", after := #[{ on := 6, ground := Go.Ground.guard }], guard := some (6, true) }
def o13_2_8 : Oper := { dst := some 22, op := Go.Op.call { callee := Go.Callee.value (Go.Operand.func 52), args := #[Go.Operand.tmp 21], argTypes := #[24] }, type := 4, pos := "ref.go:75", after := #[{ on := 7, ground := Go.Ground.data }, { on := 6, ground := Go.Ground.chain }, { on := 6, ground := Go.Ground.guard }], guard := some (6, true) }
def o13_2_9 : Oper := { dst := some 23, op := Go.Op.load 24 (Go.Operand.tmp 2), type := 24, pos := "ref.go:75", after := #[{ on := 6, ground := Go.Ground.guard }], guard := some (6, true) }
def o13_2_10 : Oper := { dst := some 24, op := Go.Op.call { callee := Go.Callee.value (Go.Operand.func 52), args := #[Go.Operand.tmp 23], argTypes := #[24] }, type := 4, pos := "ref.go:75", after := #[{ on := 9, ground := Go.Ground.data }, { on := 8, ground := Go.Ground.chain }, { on := 6, ground := Go.Ground.guard }], guard := some (6, true) }
def o13_2_11 : Oper := { dst := some 25, op := Go.Op.binOp Go.BinOp.neq 4 (Go.Operand.tmp 22) (Go.Operand.tmp 24) 4, type := 4, pos := "ref.go:75", after := #[{ on := 8, ground := Go.Ground.data }, { on := 10, ground := Go.Ground.data }, { on := 6, ground := Go.Ground.guard }, { on := 13, ground := Go.Ground.gcOnly Go.Departure.lateStores }], guard := some (6, true) }
def o13_2_12 : Oper := { dst := some 26, op := Go.Op.pick (Go.Operand.tmp 20) (Go.Operand.tmp 25) (Go.Operand.const (Go.Value.bool false)), type := 4, pos := "ref.go:75", after := #[{ on := 6, ground := Go.Ground.data }, { on := 11, ground := Go.Ground.data }, { on := 13, ground := Go.Ground.gcOnly Go.Departure.lateStores }], guard := none }
def o13_2_13 : Oper := { dst := none, op := Go.Op.store 24 (Go.Operand.tmp 4) (Go.Operand.tmp 14), type := 0, pos := "ref.go:75", after := #[{ on := 0, ground := Go.Ground.data }, { on := 10, ground := Go.Ground.chain }, { on := 0, ground := Go.Ground.phase }, { on := 1, ground := Go.Ground.textOnly Go.Departure.lateStores }, { on := 2, ground := Go.Ground.textOnly Go.Departure.lateStoresUnsure }, { on := 3, ground := Go.Ground.textOnly Go.Departure.lateStores }, { on := 4, ground := Go.Ground.textOnly Go.Departure.lateStoresUnsure }, { on := 5, ground := Go.Ground.textOnly Go.Departure.lateStores }, { on := 6, ground := Go.Ground.textOnly Go.Departure.lateStores }, { on := 7, ground := Go.Ground.textOnly Go.Departure.lateStores }, { on := 8, ground := Go.Ground.textOnly Go.Departure.lateStoresUnsure }, { on := 9, ground := Go.Ground.textOnly Go.Departure.lateStores }, { on := 10, ground := Go.Ground.textOnly Go.Departure.lateStoresUnsure }, { on := 11, ground := Go.Ground.textOnly Go.Departure.lateStores }, { on := 12, ground := Go.Ground.textOnly Go.Departure.lateStores }], guard := none }
def o13_2_14 : Oper := { dst := some 5, op := Go.Op.assign (Go.Operand.tmp 26), type := 4, pos := "ref.go:75", after := #[{ on := 12, ground := Go.Ground.data }, { on := 13, ground := Go.Ground.chain }, { on := 0, ground := Go.Ground.phase }, { on := 1, ground := Go.Ground.phase }, { on := 2, ground := Go.Ground.phase }, { on := 3, ground := Go.Ground.phase }, { on := 4, ground := Go.Ground.phase }, { on := 5, ground := Go.Ground.phase }, { on := 6, ground := Go.Ground.phase }, { on := 7, ground := Go.Ground.phase }, { on := 8, ground := Go.Ground.phase }, { on := 9, ground := Go.Ground.phase }, { on := 10, ground := Go.Ground.phase }, { on := 11, ground := Go.Ground.phase }, { on := 12, ground := Go.Ground.phase }, { on := 13, ground := Go.Ground.phase }], guard := none }
attribute [local go_sem] o13_2_0 o13_2_1 o13_2_2 o13_2_3 o13_2_4 o13_2_5 o13_2_6 o13_2_7 o13_2_8 o13_2_9 o13_2_10 o13_2_11 o13_2_12 o13_2_13 o13_2_14
set_option maxRecDepth 100000 in
set_option maxHeartbeats 4000000 in
theorem refsub_r1 (w W : World) (B11 B6 B2 : Nat) (a b d e n f r : Nat → Nat) (ha : Wds a) (hb : Wds b) (hd : Digs d) (he : Digs e) (hn : Digs n) (hf : Digs f) (Xh1 : Hid (digR a = d)) (Xh2 : Hid (digR b = e)) (Xh3 : Hid (plusR d n 1 = f)) (Xh4 : Hid (widR f = r)) (Xh7 : Hid (notR e = n)) (hL : Lv w [(B11, Obj.cells #[.int .u64 0, .int .u64 0, .int .u64 0, .int .u64 0] 24 (0, 0)), (B6, Obj.cells #[.int .u64 (b 0), .int .u64 (b 1), .int .u64 (b 2), .int .u64 (b 3)] 24 (0, 0)), (B2, Obj.cells #[.int .u64 (a 0), .int .u64 (a 1), .int .u64 (a 2), .int .u64 (a 3)] 24 (0, 0))] W) :
    (Code.region 1 #[o13_1_0, o13_1_1, o13_1_2, o13_1_3, o13_1_4, o13_1_5, o13_1_6, o13_1_7, o13_1_8] true).wp Try.prog (fun ee aa ww => ee = Exit.normal ∧ ∃ N7 : Nat, aa = { tmps := #[.agg #[.int .u64 (a 0), .int .u64 (a 1), .int .u64 (a 2), .int .u64 (a 3)], .agg #[.int .u64 (b 0), .int .u64 (b 1), .int .u64 (b 2), .int .u64 (b 3)], .pointer (some ⟨B2, 0, none⟩), .pointer (some ⟨B6, 0, none⟩), .pointer (some ⟨B11, 0, none⟩), .bool false, .pointer (some ⟨N7, 0, none⟩), .agg #[.int .u64 (a 0), .int .u64 (a 1), .int .u64 (a 2), .int .u64 (a 3)], .agg #[.int .u64 (d 0), .int .u64 (d 1), .int .u64 (d 2), .int .u64 (d 3), .int .u64 (d 4), .int .u64 (d 5), .int .u64 (d 6), .int .u64 (d 7)], .agg #[.int .u64 (b 0), .int .u64 (b 1), .int .u64 (b 2), .int .u64 (b 3)], .agg #[.int .u64 (e 0), .int .u64 (e 1), .int .u64 (e 2), .int .u64 (e 3), .int .u64 (e 4), .int .u64 (e 5), .int .u64 (e 6), .int .u64 (e 7)], .agg #[.int .u64 (n 0), .int .u64 (n 1), .int .u64 (n 2), .int .u64 (n 3), .int .u64 (n 4), .int .u64 (n 5), .int .u64 (n 6), .int .u64 (n 7)], .agg #[.int .u64 (f 0), .int .u64 (f 1), .int .u64 (f 2), .int .u64 (f 3), .int .u64 (f 4), .int .u64 (f 5), .int .u64 (f 6), .int .u64 (f 7)], .agg #[.int .u64 (r 0), .int .u64 (r 1), .int .u64 (r 2), .int .u64 (r 3)], undef, undef, undef, undef, undef, undef, undef, undef, undef, undef, undef, undef, undef], defers := [] } ∧ Lv w [(N7, Obj.cells #[.int .u64 (r 0), .int .u64 (r 1), .int .u64 (r 2), .int .u64 (r 3)] 24 (0, 0)), (B11, Obj.cells #[.int .u64 0, .int .u64 0, .int .u64 0, .int .u64 0] 24 (0, 0)), (B6, Obj.cells #[.int .u64 (b 0), .int .u64 (b 1), .int .u64 (b 2), .int .u64 (b 3)] 24 (0, 0)), (B2, Obj.cells #[.int .u64 (a 0), .int .u64 (a 1), .int .u64 (a 2), .int .u64 (a 3)] 24 (0, 0))] ww) { tmps := #[.agg #[.int .u64 (a 0), .int .u64 (a 1), .int .u64 (a 2), .int .u64 (a 3)], .agg #[.int .u64 (b 0), .int .u64 (b 1), .int .u64 (b 2), .int .u64 (b 3)], .pointer (some ⟨B2, 0, none⟩), .pointer (some ⟨B6, 0, none⟩), .pointer (some ⟨B11, 0, none⟩), .bool false, undef, undef, undef, undef, undef, undef, undef, undef, undef, undef, undef, undef, undef, undef, undef, undef, undef, undef, undef, undef, undef], defers := [] } W := by
  refine wp_region_noPanic ?_
  refine wp_region_held_drew (S := fun W' => Lv w [(B11, Obj.cells #[.int .u64 0, .int .u64 0, .int .u64 0, .int .u64 0] 24 (0, 0)), (B6, Obj.cells #[.int .u64 (b 0), .int .u64 (b 1), .int .u64 (b 2), .int .u64 (b 3)] 24 (0, 0)), (B2, Obj.cells #[.int .u64 (a 0), .int .u64 (a 1), .int .u64 (a 2), .int .u64 (a 3)] 24 (0, 0))] W') (by kernel_rfl) (lv_drew (lv_sub (sk (sk (sk sn))) hL)) (fun hHeld => ?_)
  replace hL := lv_drew hL
  obtain ⟨D15, hD16⟩ : ∃ W0, World.drew W = W0 := ⟨_, rfl⟩
  rw [hD16] at hHeld hL ⊢
  clear hD16
  refine tk 0 o13_1_0 (v := ?_) ?_ ?_
  rotate_left
  · intro w hSw
    obtain ⟨k0, k1, k2, k3⟩ := lv_cells4 hSw lm2
    delta o13_1_0
    go_simp
    try with_reducible rfl
  try simp only [Act.put, o13_1_0, List.setIfInBounds_toArray, List.set_cons_zero, List.set_cons_succ]
  refine tk 2 o13_1_2 (v := ?_) ?_ ?_
  rotate_left
  · intro w hSw
    obtain ⟨k0, k1, k2, k3⟩ := lv_cells4 hSw lm1
    delta o13_1_2
    go_simp
    try with_reducible rfl
  try simp only [Act.put, o13_1_2, List.setIfInBounds_toArray, List.set_cons_zero, List.set_cons_succ]
  refine rd2 1 7 o13_1_1 o13_1_7 (fun K hK => ?_) (fun K hK => ?_)
  · skip
    delta o13_1_1
    go_simp
    refine (digits_c ha Xh1.out _).mono ?_
    rintro e W17 ⟨rfl, hBl⟩
    replace hL := lv_below hL hBl
    clear hBl
    refine hK.out _ _ (lv_sub (sk (sk (sk sn))) hL) (fun hHeld2 => ?_)
    clear hK K hHeld
    have hHeld := hHeld2
    clear hHeld2
    try simp only [Act.put, o13_1_1, List.setIfInBounds_toArray, List.set_cons_zero, List.set_cons_succ]
    refine rd2 3 7 o13_1_3 o13_1_7 (fun K hK => ?_) (fun K hK => ?_)
    · skip
      delta o13_1_3
      go_simp
      refine (digits_c hb Xh2.out _).mono ?_
      rintro e W18 ⟨rfl, hBl⟩
      replace hL := lv_below hL hBl
      clear hBl
      refine hK.out _ _ (lv_sub (sk (sk (sk sn))) hL) (fun hHeld2 => ?_)
      clear hK K hHeld
      have hHeld := hHeld2
      clear hHeld2
      try simp only [Act.put, o13_1_3, List.setIfInBounds_toArray, List.set_cons_zero, List.set_cons_succ]
      refine rd2 4 7 o13_1_4 o13_1_7 (fun K hK => ?_) (fun K hK => ?_)
      · skip
        delta o13_1_4
        go_simp
        refine (not_c he Xh7.out _).mono ?_
        rintro e W19 ⟨rfl, hBl⟩
        replace hL := lv_below hL hBl
        clear hBl
        refine hK.out _ _ (lv_sub (sk (sk (sk sn))) hL) (fun hHeld2 => ?_)
        clear hK K hHeld
        have hHeld := hHeld2
        clear hHeld2
        try simp only [Act.put, o13_1_4, List.setIfInBounds_toArray, List.set_cons_zero, List.set_cons_succ]
        refine rd2 5 7 o13_1_5 o13_1_7 (fun K hK => ?_) (fun K hK => ?_)
        · skip
          delta o13_1_5
          go_simp
          refine (plus1_c hd hn Xh3.out _).mono ?_
          rintro e W20 ⟨rfl, hBl⟩
          replace hL := lv_below hL hBl
          clear hBl
          refine hK.out _ _ (lv_sub (sk (sk (sk sn))) hL) (fun hHeld2 => ?_)
          clear hK K hHeld
          have hHeld := hHeld2
          clear hHeld2
          try simp only [Act.put, o13_1_5, List.setIfInBounds_toArray, List.set_cons_zero, List.set_cons_succ]
          refine rd2 6 7 o13_1_6 o13_1_7 (fun K hK => ?_) (fun K hK => ?_)
          · skip
            delta o13_1_6
            go_simp
            refine (wide_c hf Xh4.out _).mono ?_
            rintro e W21 ⟨rfl, hBl⟩
            replace hL := lv_below hL hBl
            clear hBl
            refine hK.out _ _ (lv_sub (sk (sk (sk sn))) hL) (fun hHeld2 => ?_)
            clear hK K hHeld
            have hHeld := hHeld2
            clear hHeld2
            try simp only [Act.put, o13_1_6, List.setIfInBounds_toArray, List.set_cons_zero, List.set_cons_succ]
            refine rd1 7 o13_1_7 (fun K hK => ?_)
            delta o13_1_7
            go_simp
            obtain ⟨V22, B23, hVx, hBx, hL2⟩ := lv_grow hL (Obj.cells #[.int .u64 0, .int .u64 0, .int .u64 0, .int .u64 0] 24)
            rw [hVx, hBx]
            clear hVx hBx hL
            have hL := hL2
            clear hL2
            refine hK.out _ _ (lv_sub (sd (sk (sk (sk sn)))) hL) (fun hHeld2 => ?_)
            clear hK K hHeld
            have hHeld := hHeld2
            clear hHeld2
            try simp only [Act.put, o13_1_7, List.setIfInBounds_toArray, List.set_cons_zero, List.set_cons_succ]
            refine rd1 8 o13_1_8 (fun K hK => ?_)
            obtain ⟨k0, k1, k2, k3⟩ := lv_cells4 hL lm0
            have z0 := lv_frozen hL lm0 0
            have z1 := lv_frozen hL lm0 1
            have z2 := lv_frozen hL lm0 2
            have z3 := lv_frozen hL lm0 3
            delta o13_1_8
            go_simp
            clear k0 z0 k1 z1 k2 z2 k3 z3
            obtain ⟨V24, hVx, hL2⟩ : ∃ V, (World.setCell (World.setCell (World.setCell (World.setCell V22 ⟨B23, 0, none⟩ (.int .u64 (r 0))) ⟨B23, 1, none⟩ (.int .u64 (r 1))) ⟨B23, 2, none⟩ (.int .u64 (r 2))) ⟨B23, 3, none⟩ (.int .u64 (r 3))) = V ∧ Lv w [(B23, Obj.cells #[.int .u64 (r 0), .int .u64 (r 1), .int .u64 (r 2), .int .u64 (r 3)] 24 (0, 0)), (B11, Obj.cells #[.int .u64 0, .int .u64 0, .int .u64 0, .int .u64 0] 24 (0, 0)), (B6, Obj.cells #[.int .u64 (b 0), .int .u64 (b 1), .int .u64 (b 2), .int .u64 (b 3)] 24 (0, 0)), (B2, Obj.cells #[.int .u64 (a 0), .int .u64 (a 1), .int .u64 (a 2), .int .u64 (a 3)] 24 (0, 0))] V := ⟨_, rfl, lv_store4 [] hL _ _ _ _⟩
            rw [hVx]
            clear hVx hL
            have hL := hL2
            clear hL2
            refine hK.out _ _ (lv_sub (sd (sk (sk (sk sn)))) hL) (fun hHeld2 => ?_)
            clear hK K hHeld
            have hHeld := hHeld2
            clear hHeld2
            try simp only [Act.put, o13_1_8, List.setIfInBounds_toArray, List.set_cons_zero, List.set_cons_succ]
            refine wpAnyH_done (by kernel_rfl) ?_ _
            refine NoPanic.normal ?_
            exact ⟨rfl, B23, rfl, hL⟩
          · skip
            delta o13_1_7
            go_simp
            obtain ⟨V25, B26, hVx, hBx, hL2⟩ := lv_grow hL (Obj.cells #[.int .u64 0, .int .u64 0, .int .u64 0, .int .u64 0] 24)
            rw [hVx, hBx]
            clear hVx hBx hL
            have hL := hL2
            clear hL2
            refine hK.out _ _ (lv_sub (sd (sk (sk (sk sn)))) hL) (fun hHeld2 => ?_)
            clear hK K hHeld
            have hHeld := hHeld2
            clear hHeld2
            try simp only [Act.put, o13_1_7, List.setIfInBounds_toArray, List.set_cons_zero, List.set_cons_succ]
            refine rd1 6 o13_1_6 (fun K hK => ?_)
            delta o13_1_6
            go_simp
            refine (wide_c hf Xh4.out _).mono ?_
            rintro e W27 ⟨rfl, hBl⟩
            replace hL := lv_below hL hBl
            clear hBl
            refine hK.out _ _ (lv_sub (sd (sk (sk (sk sn)))) hL) (fun hHeld2 => ?_)
            clear hK K hHeld
            have hHeld := hHeld2
            clear hHeld2
            try simp only [Act.put, o13_1_6, List.setIfInBounds_toArray, List.set_cons_zero, List.set_cons_succ]
            refine rd1 8 o13_1_8 (fun K hK => ?_)
            obtain ⟨k0, k1, k2, k3⟩ := lv_cells4 hL lm0
            have z0 := lv_frozen hL lm0 0
            have z1 := lv_frozen hL lm0 1
            have z2 := lv_frozen hL lm0 2
            have z3 := lv_frozen hL lm0 3
            delta o13_1_8
            go_simp
            clear k0 z0 k1 z1 k2 z2 k3 z3
            obtain ⟨V28, hVx, hL2⟩ : ∃ V, (World.setCell (World.setCell (World.setCell (World.setCell W27 ⟨B26, 0, none⟩ (.int .u64 (r 0))) ⟨B26, 1, none⟩ (.int .u64 (r 1))) ⟨B26, 2, none⟩ (.int .u64 (r 2))) ⟨B26, 3, none⟩ (.int .u64 (r 3))) = V ∧ Lv w [(B26, Obj.cells #[.int .u64 (r 0), .int .u64 (r 1), .int .u64 (r 2), .int .u64 (r 3)] 24 (0, 0)), (B11, Obj.cells #[.int .u64 0, .int .u64 0, .int .u64 0, .int .u64 0] 24 (0, 0)), (B6, Obj.cells #[.int .u64 (b 0), .int .u64 (b 1), .int .u64 (b 2), .int .u64 (b 3)] 24 (0, 0)), (B2, Obj.cells #[.int .u64 (a 0), .int .u64 (a 1), .int .u64 (a 2), .int .u64 (a 3)] 24 (0, 0))] V := ⟨_, rfl, lv_store4 [] hL _ _ _ _⟩
            rw [hVx]
            clear hVx hL
            have hL := hL2
            clear hL2
            refine hK.out _ _ (lv_sub (sd (sk (sk (sk sn)))) hL) (fun hHeld2 => ?_)
            clear hK K hHeld
            have hHeld := hHeld2
            clear hHeld2
            try simp only [Act.put, o13_1_8, List.setIfInBounds_toArray, List.set_cons_zero, List.set_cons_succ]
            refine wpAnyH_done (by kernel_rfl) ?_ _
            refine NoPanic.normal ?_
            exact ⟨rfl, B26, rfl, hL⟩
        · skip
          delta o13_1_7
          go_simp
          obtain ⟨V29, B30, hVx, hBx, hL2⟩ := lv_grow hL (Obj.cells #[.int .u64 0, .int .u64 0, .int .u64 0, .int .u64 0] 24)
          rw [hVx, hBx]
          clear hVx hBx hL
          have hL := hL2
          clear hL2
          refine hK.out _ _ (lv_sub (sd (sk (sk (sk sn)))) hL) (fun hHeld2 => ?_)
          clear hK K hHeld
          have hHeld := hHeld2
          clear hHeld2
          try simp only [Act.put, o13_1_7, List.setIfInBounds_toArray, List.set_cons_zero, List.set_cons_succ]
          refine rd1 5 o13_1_5 (fun K hK => ?_)
          delta o13_1_5
          go_simp
          refine (plus1_c hd hn Xh3.out _).mono ?_
          rintro e W31 ⟨rfl, hBl⟩
          replace hL := lv_below hL hBl
          clear hBl
          refine hK.out _ _ (lv_sub (sd (sk (sk (sk sn)))) hL) (fun hHeld2 => ?_)
          clear hK K hHeld
          have hHeld := hHeld2
          clear hHeld2
          try simp only [Act.put, o13_1_5, List.setIfInBounds_toArray, List.set_cons_zero, List.set_cons_succ]
          refine rd1 6 o13_1_6 (fun K hK => ?_)
          delta o13_1_6
          go_simp
          refine (wide_c hf Xh4.out _).mono ?_
          rintro e W32 ⟨rfl, hBl⟩
          replace hL := lv_below hL hBl
          clear hBl
          refine hK.out _ _ (lv_sub (sd (sk (sk (sk sn)))) hL) (fun hHeld2 => ?_)
          clear hK K hHeld
          have hHeld := hHeld2
          clear hHeld2
          try simp only [Act.put, o13_1_6, List.setIfInBounds_toArray, List.set_cons_zero, List.set_cons_succ]
          refine rd1 8 o13_1_8 (fun K hK => ?_)
          obtain ⟨k0, k1, k2, k3⟩ := lv_cells4 hL lm0
          have z0 := lv_frozen hL lm0 0
          have z1 := lv_frozen hL lm0 1
          have z2 := lv_frozen hL lm0 2
          have z3 := lv_frozen hL lm0 3
          delta o13_1_8
          go_simp
          clear k0 z0 k1 z1 k2 z2 k3 z3
          obtain ⟨V33, hVx, hL2⟩ : ∃ V, (World.setCell (World.setCell (World.setCell (World.setCell W32 ⟨B30, 0, none⟩ (.int .u64 (r 0))) ⟨B30, 1, none⟩ (.int .u64 (r 1))) ⟨B30, 2, none⟩ (.int .u64 (r 2))) ⟨B30, 3, none⟩ (.int .u64 (r 3))) = V ∧ Lv w [(B30, Obj.cells #[.int .u64 (r 0), .int .u64 (r 1), .int .u64 (r 2), .int .u64 (r 3)] 24 (0, 0)), (B11, Obj.cells #[.int .u64 0, .int .u64 0, .int .u64 0, .int .u64 0] 24 (0, 0)), (B6, Obj.cells #[.int .u64 (b 0), .int .u64 (b 1), .int .u64 (b 2), .int .u64 (b 3)] 24 (0, 0)), (B2, Obj.cells #[.int .u64 (a 0), .int .u64 (a 1), .int .u64 (a 2), .int .u64 (a 3)] 24 (0, 0))] V := ⟨_, rfl, lv_store4 [] hL _ _ _ _⟩
          rw [hVx]
          clear hVx hL
          have hL := hL2
          clear hL2
          refine hK.out _ _ (lv_sub (sd (sk (sk (sk sn)))) hL) (fun hHeld2 => ?_)
          clear hK K hHeld
          have hHeld := hHeld2
          clear hHeld2
          try simp only [Act.put, o13_1_8, List.setIfInBounds_toArray, List.set_cons_zero, List.set_cons_succ]
          refine wpAnyH_done (by kernel_rfl) ?_ _
          refine NoPanic.normal ?_
          exact ⟨rfl, B30, rfl, hL⟩
      · skip
        delta o13_1_7
        go_simp
        obtain ⟨V34, B35, hVx, hBx, hL2⟩ := lv_grow hL (Obj.cells #[.int .u64 0, .int .u64 0, .int .u64 0, .int .u64 0] 24)
        rw [hVx, hBx]
        clear hVx hBx hL
        have hL := hL2
        clear hL2
        refine hK.out _ _ (lv_sub (sd (sk (sk (sk sn)))) hL) (fun hHeld2 => ?_)
        clear hK K hHeld
        have hHeld := hHeld2
        clear hHeld2
        try simp only [Act.put, o13_1_7, List.setIfInBounds_toArray, List.set_cons_zero, List.set_cons_succ]
        refine rd1 4 o13_1_4 (fun K hK => ?_)
        delta o13_1_4
        go_simp
        refine (not_c he Xh7.out _).mono ?_
        rintro e W36 ⟨rfl, hBl⟩
        replace hL := lv_below hL hBl
        clear hBl
        refine hK.out _ _ (lv_sub (sd (sk (sk (sk sn)))) hL) (fun hHeld2 => ?_)
        clear hK K hHeld
        have hHeld := hHeld2
        clear hHeld2
        try simp only [Act.put, o13_1_4, List.setIfInBounds_toArray, List.set_cons_zero, List.set_cons_succ]
        refine rd1 5 o13_1_5 (fun K hK => ?_)
        delta o13_1_5
        go_simp
        refine (plus1_c hd hn Xh3.out _).mono ?_
        rintro e W37 ⟨rfl, hBl⟩
        replace hL := lv_below hL hBl
        clear hBl
        refine hK.out _ _ (lv_sub (sd (sk (sk (sk sn)))) hL) (fun hHeld2 => ?_)
        clear hK K hHeld
        have hHeld := hHeld2
        clear hHeld2
        try simp only [Act.put, o13_1_5, List.setIfInBounds_toArray, List.set_cons_zero, List.set_cons_succ]
        refine rd1 6 o13_1_6 (fun K hK => ?_)
        delta o13_1_6
        go_simp
        refine (wide_c hf Xh4.out _).mono ?_
        rintro e W38 ⟨rfl, hBl⟩
        replace hL := lv_below hL hBl
        clear hBl
        refine hK.out _ _ (lv_sub (sd (sk (sk (sk sn)))) hL) (fun hHeld2 => ?_)
        clear hK K hHeld
        have hHeld := hHeld2
        clear hHeld2
        try simp only [Act.put, o13_1_6, List.setIfInBounds_toArray, List.set_cons_zero, List.set_cons_succ]
        refine rd1 8 o13_1_8 (fun K hK => ?_)
        obtain ⟨k0, k1, k2, k3⟩ := lv_cells4 hL lm0
        have z0 := lv_frozen hL lm0 0
        have z1 := lv_frozen hL lm0 1
        have z2 := lv_frozen hL lm0 2
        have z3 := lv_frozen hL lm0 3
        delta o13_1_8
        go_simp
        clear k0 z0 k1 z1 k2 z2 k3 z3
        obtain ⟨V39, hVx, hL2⟩ : ∃ V, (World.setCell (World.setCell (World.setCell (World.setCell W38 ⟨B35, 0, none⟩ (.int .u64 (r 0))) ⟨B35, 1, none⟩ (.int .u64 (r 1))) ⟨B35, 2, none⟩ (.int .u64 (r 2))) ⟨B35, 3, none⟩ (.int .u64 (r 3))) = V ∧ Lv w [(B35, Obj.cells #[.int .u64 (r 0), .int .u64 (r 1), .int .u64 (r 2), .int .u64 (r 3)] 24 (0, 0)), (B11, Obj.cells #[.int .u64 0, .int .u64 0, .int .u64 0, .int .u64 0] 24 (0, 0)), (B6, Obj.cells #[.int .u64 (b 0), .int .u64 (b 1), .int .u64 (b 2), .int .u64 (b 3)] 24 (0, 0)), (B2, Obj.cells #[.int .u64 (a 0), .int .u64 (a 1), .int .u64 (a 2), .int .u64 (a 3)] 24 (0, 0))] V := ⟨_, rfl, lv_store4 [] hL _ _ _ _⟩
        rw [hVx]
        clear hVx hL
        have hL := hL2
        clear hL2
        refine hK.out _ _ (lv_sub (sd (sk (sk (sk sn)))) hL) (fun hHeld2 => ?_)
        clear hK K hHeld
        have hHeld := hHeld2
        clear hHeld2
        try simp only [Act.put, o13_1_8, List.setIfInBounds_toArray, List.set_cons_zero, List.set_cons_succ]
        refine wpAnyH_done (by kernel_rfl) ?_ _
        refine NoPanic.normal ?_
        exact ⟨rfl, B35, rfl, hL⟩
    · skip
      delta o13_1_7
      go_simp
      obtain ⟨V40, B41, hVx, hBx, hL2⟩ := lv_grow hL (Obj.cells #[.int .u64 0, .int .u64 0, .int .u64 0, .int .u64 0] 24)
      rw [hVx, hBx]
      clear hVx hBx hL
      have hL := hL2
      clear hL2
      refine hK.out _ _ (lv_sub (sd (sk (sk (sk sn)))) hL) (fun hHeld2 => ?_)
      clear hK K hHeld
      have hHeld := hHeld2
      clear hHeld2
      try simp only [Act.put, o13_1_7, List.setIfInBounds_toArray, List.set_cons_zero, List.set_cons_succ]
      refine rd1 3 o13_1_3 (fun K hK => ?_)
      delta o13_1_3
      go_simp
      refine (digits_c hb Xh2.out _).mono ?_
      rintro e W42 ⟨rfl, hBl⟩
      replace hL := lv_below hL hBl
      clear hBl
      refine hK.out _ _ (lv_sub (sd (sk (sk (sk sn)))) hL) (fun hHeld2 => ?_)
      clear hK K hHeld
      have hHeld := hHeld2
      clear hHeld2
      try simp only [Act.put, o13_1_3, List.setIfInBounds_toArray, List.set_cons_zero, List.set_cons_succ]
      refine rd1 4 o13_1_4 (fun K hK => ?_)
      delta o13_1_4
      go_simp
      refine (not_c he Xh7.out _).mono ?_
      rintro e W43 ⟨rfl, hBl⟩
      replace hL := lv_below hL hBl
      clear hBl
      refine hK.out _ _ (lv_sub (sd (sk (sk (sk sn)))) hL) (fun hHeld2 => ?_)
      clear hK K hHeld
      have hHeld := hHeld2
      clear hHeld2
      try simp only [Act.put, o13_1_4, List.setIfInBounds_toArray, List.set_cons_zero, List.set_cons_succ]
      refine rd1 5 o13_1_5 (fun K hK => ?_)
      delta o13_1_5
      go_simp
      refine (plus1_c hd hn Xh3.out _).mono ?_
      rintro e W44 ⟨rfl, hBl⟩
      replace hL := lv_below hL hBl
      clear hBl
      refine hK.out _ _ (lv_sub (sd (sk (sk (sk sn)))) hL) (fun hHeld2 => ?_)
      clear hK K hHeld
      have hHeld := hHeld2
      clear hHeld2
      try simp only [Act.put, o13_1_5, List.setIfInBounds_toArray, List.set_cons_zero, List.set_cons_succ]
      refine rd1 6 o13_1_6 (fun K hK => ?_)
      delta o13_1_6
      go_simp
      refine (wide_c hf Xh4.out _).mono ?_
      rintro e W45 ⟨rfl, hBl⟩
      replace hL := lv_below hL hBl
      clear hBl
      refine hK.out _ _ (lv_sub (sd (sk (sk (sk sn)))) hL) (fun hHeld2 => ?_)
      clear hK K hHeld
      have hHeld := hHeld2
      clear hHeld2
      try simp only [Act.put, o13_1_6, List.setIfInBounds_toArray, List.set_cons_zero, List.set_cons_succ]
      refine rd1 8 o13_1_8 (fun K hK => ?_)
      obtain ⟨k0, k1, k2, k3⟩ := lv_cells4 hL lm0
      have z0 := lv_frozen hL lm0 0
      have z1 := lv_frozen hL lm0 1
      have z2 := lv_frozen hL lm0 2
      have z3 := lv_frozen hL lm0 3
      delta o13_1_8
      go_simp
      clear k0 z0 k1 z1 k2 z2 k3 z3
      obtain ⟨V46, hVx, hL2⟩ : ∃ V, (World.setCell (World.setCell (World.setCell (World.setCell W45 ⟨B41, 0, none⟩ (.int .u64 (r 0))) ⟨B41, 1, none⟩ (.int .u64 (r 1))) ⟨B41, 2, none⟩ (.int .u64 (r 2))) ⟨B41, 3, none⟩ (.int .u64 (r 3))) = V ∧ Lv w [(B41, Obj.cells #[.int .u64 (r 0), .int .u64 (r 1), .int .u64 (r 2), .int .u64 (r 3)] 24 (0, 0)), (B11, Obj.cells #[.int .u64 0, .int .u64 0, .int .u64 0, .int .u64 0] 24 (0, 0)), (B6, Obj.cells #[.int .u64 (b 0), .int .u64 (b 1), .int .u64 (b 2), .int .u64 (b 3)] 24 (0, 0)), (B2, Obj.cells #[.int .u64 (a 0), .int .u64 (a 1), .int .u64 (a 2), .int .u64 (a 3)] 24 (0, 0))] V := ⟨_, rfl, lv_store4 [] hL _ _ _ _⟩
      rw [hVx]
      clear hVx hL
      have hL := hL2
      clear hL2
      refine hK.out _ _ (lv_sub (sd (sk (sk (sk sn)))) hL) (fun hHeld2 => ?_)
      clear hK K hHeld
      have hHeld := hHeld2
      clear hHeld2
      try simp only [Act.put, o13_1_8, List.setIfInBounds_toArray, List.set_cons_zero, List.set_cons_succ]
      refine wpAnyH_done (by kernel_rfl) ?_ _
      refine NoPanic.normal ?_
      exact ⟨rfl, B41, rfl, hL⟩
  · skip
    delta o13_1_7
    go_simp
    obtain ⟨V47, B48, hVx, hBx, hL2⟩ := lv_grow hL (Obj.cells #[.int .u64 0, .int .u64 0, .int .u64 0, .int .u64 0] 24)
    rw [hVx, hBx]
    clear hVx hBx hL
    have hL := hL2
    clear hL2
    refine hK.out _ _ (lv_sub (sd (sk (sk (sk sn)))) hL) (fun hHeld2 => ?_)
    clear hK K hHeld
    have hHeld := hHeld2
    clear hHeld2
    try simp only [Act.put, o13_1_7, List.setIfInBounds_toArray, List.set_cons_zero, List.set_cons_succ]
    refine rd1 1 o13_1_1 (fun K hK => ?_)
    delta o13_1_1
    go_simp
    refine (digits_c ha Xh1.out _).mono ?_
    rintro e W49 ⟨rfl, hBl⟩
    replace hL := lv_below hL hBl
    clear hBl
    refine hK.out _ _ (lv_sub (sd (sk (sk (sk sn)))) hL) (fun hHeld2 => ?_)
    clear hK K hHeld
    have hHeld := hHeld2
    clear hHeld2
    try simp only [Act.put, o13_1_1, List.setIfInBounds_toArray, List.set_cons_zero, List.set_cons_succ]
    refine rd1 3 o13_1_3 (fun K hK => ?_)
    delta o13_1_3
    go_simp
    refine (digits_c hb Xh2.out _).mono ?_
    rintro e W50 ⟨rfl, hBl⟩
    replace hL := lv_below hL hBl
    clear hBl
    refine hK.out _ _ (lv_sub (sd (sk (sk (sk sn)))) hL) (fun hHeld2 => ?_)
    clear hK K hHeld
    have hHeld := hHeld2
    clear hHeld2
    try simp only [Act.put, o13_1_3, List.setIfInBounds_toArray, List.set_cons_zero, List.set_cons_succ]
    refine rd1 4 o13_1_4 (fun K hK => ?_)
    delta o13_1_4
    go_simp
    refine (not_c he Xh7.out _).mono ?_
    rintro e W51 ⟨rfl, hBl⟩
    replace hL := lv_below hL hBl
    clear hBl
    refine hK.out _ _ (lv_sub (sd (sk (sk (sk sn)))) hL) (fun hHeld2 => ?_)
    clear hK K hHeld
    have hHeld := hHeld2
    clear hHeld2
    try simp only [Act.put, o13_1_4, List.setIfInBounds_toArray, List.set_cons_zero, List.set_cons_succ]
    refine rd1 5 o13_1_5 (fun K hK => ?_)
    delta o13_1_5
    go_simp
    refine (plus1_c hd hn Xh3.out _).mono ?_
    rintro e W52 ⟨rfl, hBl⟩
    replace hL := lv_below hL hBl
    clear hBl
    refine hK.out _ _ (lv_sub (sd (sk (sk (sk sn)))) hL) (fun hHeld2 => ?_)
    clear hK K hHeld
    have hHeld := hHeld2
    clear hHeld2
    try simp only [Act.put, o13_1_5, List.setIfInBounds_toArray, List.set_cons_zero, List.set_cons_succ]
    refine rd1 6 o13_1_6 (fun K hK => ?_)
    delta o13_1_6
    go_simp
    refine (wide_c hf Xh4.out _).mono ?_
    rintro e W53 ⟨rfl, hBl⟩
    replace hL := lv_below hL hBl
    clear hBl
    refine hK.out _ _ (lv_sub (sd (sk (sk (sk sn)))) hL) (fun hHeld2 => ?_)
    clear hK K hHeld
    have hHeld := hHeld2
    clear hHeld2
    try simp only [Act.put, o13_1_6, List.setIfInBounds_toArray, List.set_cons_zero, List.set_cons_succ]
    refine rd1 8 o13_1_8 (fun K hK => ?_)
    obtain ⟨k0, k1, k2, k3⟩ := lv_cells4 hL lm0
    have z0 := lv_frozen hL lm0 0
    have z1 := lv_frozen hL lm0 1
    have z2 := lv_frozen hL lm0 2
    have z3 := lv_frozen hL lm0 3
    delta o13_1_8
    go_simp
    clear k0 z0 k1 z1 k2 z2 k3 z3
    obtain ⟨V54, hVx, hL2⟩ : ∃ V, (World.setCell (World.setCell (World.setCell (World.setCell W53 ⟨B48, 0, none⟩ (.int .u64 (r 0))) ⟨B48, 1, none⟩ (.int .u64 (r 1))) ⟨B48, 2, none⟩ (.int .u64 (r 2))) ⟨B48, 3, none⟩ (.int .u64 (r 3))) = V ∧ Lv w [(B48, Obj.cells #[.int .u64 (r 0), .int .u64 (r 1), .int .u64 (r 2), .int .u64 (r 3)] 24 (0, 0)), (B11, Obj.cells #[.int .u64 0, .int .u64 0, .int .u64 0, .int .u64 0] 24 (0, 0)), (B6, Obj.cells #[.int .u64 (b 0), .int .u64 (b 1), .int .u64 (b 2), .int .u64 (b 3)] 24 (0, 0)), (B2, Obj.cells #[.int .u64 (a 0), .int .u64 (a 1), .int .u64 (a 2), .int .u64 (a 3)] 24 (0, 0))] V := ⟨_, rfl, lv_store4 [] hL _ _ _ _⟩
    rw [hVx]
    clear hVx hL
    have hL := hL2
    clear hL2
    refine hK.out _ _ (lv_sub (sd (sk (sk (sk sn)))) hL) (fun hHeld2 => ?_)
    clear hK K hHeld
    have hHeld := hHeld2
    clear hHeld2
    try simp only [Act.put, o13_1_8, List.setIfInBounds_toArray, List.set_cons_zero, List.set_cons_succ]
    refine wpAnyH_done (by kernel_rfl) ?_ _
    refine NoPanic.normal ?_
    exact ⟨rfl, B48, rfl, hL⟩

set_option maxRecDepth 100000 in
set_option maxHeartbeats 4000000 in
theorem refsub_002 (a b d e n f r : Nat → Nat) (qr : Bool) (ha : Wds a) (hb : Wds b) (hd : Digs d) (he : Digs e) (hn : Digs n) (hf : Digs f) (hr : Wds r) (h1 : digR a = d) (h2 : digR b = e) (h3 : plusR d n 1 = f) (h4 : widR f = r) (h5 : lowB a = false) (h6 : lowB b = false) (h8 : lowB r = qr) (h7 : notR e = n)  (w : World) :
    Calls Try.prog 13 #[.agg #[.int .u64 (a 0), .int .u64 (a 1), .int .u64 (a 2), .int .u64 (a 3)], .agg #[.int .u64 (b 0), .int .u64 (b 1), .int .u64 (b 2), .int .u64 (b 3)]] w fun ee w' => ee = .returned (.tuple #[.agg #[.int .u64 (r 0), .int .u64 (r 1), .int .u64 (r 2), .int .u64 (r 3)], .bool false]) ∧ Below w.heap.size w w' := by
  have Xh1 := Lib.hid h1
  have Xh2 := Lib.hid h2
  have Xh3 := Lib.hid h3
  have Xh4 := Lib.hid h4
  have Xh5 := Lib.hid h5
  have Xh6 := Lib.hid h6
  have Xh8 := Lib.hid h8
  have Xh7 := Lib.hid h7
  clear h1 h2 h3 h4 h5 h6 h8 h7
  have hL := lv_nil w
  go_enter Try.func13, Try.ntmps13
  go_wp2_with fail
  obtain ⟨V1, B2, hV3, hB4, hL⟩ := lv_grow hL (Obj.cells #[.int .u64 (a 0), .int .u64 (a 1), .int .u64 (a 2), .int .u64 (a 3)] 24)
  rw [hV3]
  try rw [hB4]
  obtain ⟨V5, B6, hV7, hB8, hL⟩ := lv_grow hL (Obj.cells #[.int .u64 (b 0), .int .u64 (b 1), .int .u64 (b 2), .int .u64 (b 3)] 24)
  rw [hV7]
  have hs9 : B2 + 1 = B6 := by rw [← hB8, ← hV3, World.size_alloc, hB4]
  try rw [hs9]
  clear hs9
  obtain ⟨V10, B11, hV12, hB13, hL⟩ := lv_grow hL (Obj.cells #[.int .u64 0, .int .u64 0, .int .u64 0, .int .u64 0] 24)
  rw [hV12]
  have hs14 : B6 + 1 = B11 := by rw [← hB13, ← hV7, World.size_alloc, hB8]
  try rw [hs14]
  clear hs14
  clear hV3 hB4 hV7 hB8 hV12 hB13
  refine Code.wp_mono ?_ (refsub_r1 w _ B11 B6 B2 a b d e n f r ha hb hd he hn hf Xh1 Xh2 Xh3 Xh4 Xh7 hL)
  rintro ee aa W55 ⟨rfl, B56, rfl, hL2⟩
  clear hL
  have hL := hL2
  clear hL2
  go_wp2_with fail
  refine wp_region_held_drew (S := fun W' => Lv w [(B56, Obj.cells #[.int .u64 (r 0), .int .u64 (r 1), .int .u64 (r 2), .int .u64 (r 3)] 24 (0, 0)), (B6, Obj.cells #[.int .u64 (b 0), .int .u64 (b 1), .int .u64 (b 2), .int .u64 (b 3)] 24 (0, 0)), (B2, Obj.cells #[.int .u64 (a 0), .int .u64 (a 1), .int .u64 (a 2), .int .u64 (a 3)] 24 (0, 0))] W') (by kernel_rfl) (lv_drew (lv_sub (sk (sd (sk (sk sn)))) hL)) (fun hHeld => ?_)
  replace hL := lv_drew hL
  obtain ⟨D57, hD58⟩ : ∃ W0, World.drew W55 = W0 := ⟨_, rfl⟩
  rw [hD58] at hHeld hL ⊢
  clear hD58
  refine tk 0 o13_2_0 (v := ?_) ?_ ?_
  rotate_left
  · intro w hSw
    obtain ⟨k0, k1, k2, k3⟩ := lv_cells4 hSw lm0
    delta o13_2_0
    go_simp
    try with_reducible rfl
  try simp only [Act.put, o13_2_0, List.setIfInBounds_toArray, List.set_cons_zero, List.set_cons_succ]
  refine tk 1 o13_2_1 (v := ?_) ?_ ?_
  rotate_left
  · intro w hSw
    obtain ⟨k0, k1, k2, k3⟩ := lv_cells4 hSw lm2
    delta o13_2_1
    go_simp
    try with_reducible rfl
  try simp only [Act.put, o13_2_1, List.setIfInBounds_toArray, List.set_cons_zero, List.set_cons_succ]
  refine tk 3 o13_2_3 (v := ?_) ?_ ?_
  rotate_left
  · intro w hSw
    obtain ⟨k0, k1, k2, k3⟩ := lv_cells4 hSw lm1
    delta o13_2_3
    go_simp
    try with_reducible rfl
  try simp only [Act.put, o13_2_3, List.setIfInBounds_toArray, List.set_cons_zero, List.set_cons_succ]
  refine rd1 2 o13_2_2 (fun K hK => ?_)
  delta o13_2_2
  go_simp
  refine (low_c ha Xh5.out _).mono ?_
  rintro e W59 ⟨rfl, hBl⟩
  replace hL := lv_below hL hBl
  clear hBl
  refine hK.out _ _ (lv_sub (sk (sd (sk (sk sn)))) hL) (fun hHeld2 => ?_)
  clear hK K hHeld
  have hHeld := hHeld2
  clear hHeld2
  try simp only [Act.put, o13_2_2, List.setIfInBounds_toArray, List.set_cons_zero, List.set_cons_succ]
  refine rd1 4 o13_2_4 (fun K hK => ?_)
  delta o13_2_4
  go_simp
  refine (low_c hb Xh6.out _).mono ?_
  rintro e W60 ⟨rfl, hBl⟩
  replace hL := lv_below hL hBl
  clear hBl
  refine hK.out _ _ (lv_sub (sk (sd (sk (sk sn)))) hL) (fun hHeld2 => ?_)
  clear hK K hHeld
  have hHeld := hHeld2
  clear hHeld2
  try simp only [Act.put, o13_2_4, List.setIfInBounds_toArray, List.set_cons_zero, List.set_cons_succ]
  refine tk 5 o13_2_5 (v := ?_) ?_ ?_
  rotate_left
  · intro w hSw
    delta o13_2_5
    go_simp
    try with_reducible rfl
  try simp only [Act.put, o13_2_5, List.setIfInBounds_toArray, List.set_cons_zero, List.set_cons_succ]
  refine tk 6 o13_2_6 (v := ?_) ?_ ?_
  rotate_left
  · intro w hSw
    delta o13_2_6
    go_simp
    try with_reducible rfl
  try simp only [Act.put, o13_2_6, List.setIfInBounds_toArray, List.set_cons_zero, List.set_cons_succ]
  refine tu 7 o13_2_7 ?_
  try simp only [Act.put, o13_2_7, List.setIfInBounds_toArray, List.set_cons_zero, List.set_cons_succ]
  refine tu 9 o13_2_9 ?_
  try simp only [Act.put, o13_2_9, List.setIfInBounds_toArray, List.set_cons_zero, List.set_cons_succ]
  refine rd1 8 o13_2_8 (fun K hK => ?_)
  delta o13_2_8
  go_simp
  refine hK.out _ _ hHeld (fun hHeld2 => ?_)
  clear hK K hHeld
  have hHeld := hHeld2
  clear hHeld2
  try simp only [Act.put, o13_2_8, List.setIfInBounds_toArray, List.set_cons_zero, List.set_cons_succ]
  refine rd1 10 o13_2_10 (fun K hK => ?_)
  delta o13_2_10
  go_simp
  refine hK.out _ _ hHeld (fun hHeld2 => ?_)
  clear hK K hHeld
  have hHeld := hHeld2
  clear hHeld2
  try simp only [Act.put, o13_2_10, List.setIfInBounds_toArray, List.set_cons_zero, List.set_cons_succ]
  refine tu 11 o13_2_11 ?_
  try simp only [Act.put, o13_2_11, List.setIfInBounds_toArray, List.set_cons_zero, List.set_cons_succ]
  refine tk 12 o13_2_12 (v := ?_) ?_ ?_
  rotate_left
  · intro w hSw
    delta o13_2_12
    go_simp
    try with_reducible rfl
  try simp only [Act.put, o13_2_12, List.setIfInBounds_toArray, List.set_cons_zero, List.set_cons_succ]
  refine rd1 13 o13_2_13 (fun K hK => ?_)
  obtain ⟨k0, k1, k2, k3⟩ := lv_cells4 hL lm1
  have z0 := lv_frozen hL lm1 0
  have z1 := lv_frozen hL lm1 1
  have z2 := lv_frozen hL lm1 2
  have z3 := lv_frozen hL lm1 3
  delta o13_2_13
  go_simp
  clear k0 z0 k1 z1 k2 z2 k3 z3
  obtain ⟨V61, hVx, hL2⟩ : ∃ V, (World.setCell (World.setCell (World.setCell (World.setCell W60 ⟨B11, 0, none⟩ (.int .u64 (r 0))) ⟨B11, 1, none⟩ (.int .u64 (r 1))) ⟨B11, 2, none⟩ (.int .u64 (r 2))) ⟨B11, 3, none⟩ (.int .u64 (r 3))) = V ∧ Lv w [(B56, Obj.cells #[.int .u64 (r 0), .int .u64 (r 1), .int .u64 (r 2), .int .u64 (r 3)] 24 (0, 0)), (B11, Obj.cells #[.int .u64 (r 0), .int .u64 (r 1), .int .u64 (r 2), .int .u64 (r 3)] 24 (0, 0)), (B6, Obj.cells #[.int .u64 (b 0), .int .u64 (b 1), .int .u64 (b 2), .int .u64 (b 3)] 24 (0, 0)), (B2, Obj.cells #[.int .u64 (a 0), .int .u64 (a 1), .int .u64 (a 2), .int .u64 (a 3)] 24 (0, 0))] V := ⟨_, rfl, lv_store4 [(B56, Obj.cells #[.int .u64 (r 0), .int .u64 (r 1), .int .u64 (r 2), .int .u64 (r 3)] 24 (0, 0))] hL _ _ _ _⟩
  rw [hVx]
  clear hVx hL
  have hL := hL2
  clear hL2
  refine hK.out _ _ (lv_sub (sk (sd (sk (sk sn)))) hL) (fun hHeld2 => ?_)
  clear hK K hHeld
  have hHeld := hHeld2
  clear hHeld2
  try simp only [Act.put, o13_2_13, List.setIfInBounds_toArray, List.set_cons_zero, List.set_cons_succ]
  refine tk 14 o13_2_14 (v := ?_) ?_ ?_
  rotate_left
  · intro w hSw
    delta o13_2_14
    go_simp
    try with_reducible rfl
  try simp only [Act.put, o13_2_14, List.setIfInBounds_toArray, List.set_cons_zero, List.set_cons_succ]
  refine wpAnyH_done (by kernel_rfl) ?_ _
  clear hHeld
  go_wp2_with fail
  obtain ⟨k62, k63, k64, k65⟩ := lv_cells4 hL lm1
  refine bodyPost_ret (v := .tuple #[.agg #[.int .u64 (r 0), .int .u64 (r 1), .int .u64 (r 2), .int .u64 (r 3)], .bool false]) (by simp [results, Try.results13, go_sem, k62, k63, k64, k65]) rfl ⟨rfl, hL.2.2.2⟩

set_option maxRecDepth 100000 in
set_option maxHeartbeats 4000000 in
theorem refsub_010 (a b d e n f r : Nat → Nat) (ha : Wds a) (hb : Wds b) (hd : Digs d) (he : Digs e) (hn : Digs n) (hf : Digs f) (hr : Wds r) (h1 : digR a = d) (h2 : digR b = e) (h3 : plusR d n 1 = f) (h4 : widR f = r) (h5 : lowB a = false) (h6 : lowB b = true) (h8 : lowB r = false) (h7 : notR e = n)  (w : World) :
    Calls Try.prog 13 #[.agg #[.int .u64 (a 0), .int .u64 (a 1), .int .u64 (a 2), .int .u64 (a 3)], .agg #[.int .u64 (b 0), .int .u64 (b 1), .int .u64 (b 2), .int .u64 (b 3)]] w fun ee w' => ee = .returned (.tuple #[.agg #[.int .u64 (r 0), .int .u64 (r 1), .int .u64 (r 2), .int .u64 (r 3)], .bool false]) ∧ Below w.heap.size w w' := by
  have Xh1 := Lib.hid h1
  have Xh2 := Lib.hid h2
  have Xh3 := Lib.hid h3
  have Xh4 := Lib.hid h4
  have Xh5 := Lib.hid h5
  have Xh6 := Lib.hid h6
  have Xh8 := Lib.hid h8
  have Xh7 := Lib.hid h7
  clear h1 h2 h3 h4 h5 h6 h8 h7
  have hL := lv_nil w
  go_enter Try.func13, Try.ntmps13
  go_wp2_with fail
  obtain ⟨V1, B2, hV3, hB4, hL⟩ := lv_grow hL (Obj.cells #[.int .u64 (a 0), .int .u64 (a 1), .int .u64 (a 2), .int .u64 (a 3)] 24)
  rw [hV3]
  try rw [hB4]
  obtain ⟨V5, B6, hV7, hB8, hL⟩ := lv_grow hL (Obj.cells #[.int .u64 (b 0), .int .u64 (b 1), .int .u64 (b 2), .int .u64 (b 3)] 24)
  rw [hV7]
  have hs9 : B2 + 1 = B6 := by rw [← hB8, ← hV3, World.size_alloc, hB4]
  try rw [hs9]
  clear hs9
  obtain ⟨V10, B11, hV12, hB13, hL⟩ := lv_grow hL (Obj.cells #[.int .u64 0, .int .u64 0, .int .u64 0, .int .u64 0] 24)
  rw [hV12]
  have hs14 : B6 + 1 = B11 := by rw [← hB13, ← hV7, World.size_alloc, hB8]
  try rw [hs14]
  clear hs14
  clear hV3 hB4 hV7 hB8 hV12 hB13
  refine Code.wp_mono ?_ (refsub_r1 w _ B11 B6 B2 a b d e n f r ha hb hd he hn hf Xh1 Xh2 Xh3 Xh4 Xh7 hL)
  rintro ee aa W17 ⟨rfl, B18, rfl, hL2⟩
  clear hL
  have hL := hL2
  clear hL2
  go_wp2_with fail
  refine wp_region_held_drew (S := fun W' => Lv w [(B18, Obj.cells #[.int .u64 (r 0), .int .u64 (r 1), .int .u64 (r 2), .int .u64 (r 3)] 24 (0, 0)), (B6, Obj.cells #[.int .u64 (b 0), .int .u64 (b 1), .int .u64 (b 2), .int .u64 (b 3)] 24 (0, 0)), (B2, Obj.cells #[.int .u64 (a 0), .int .u64 (a 1), .int .u64 (a 2), .int .u64 (a 3)] 24 (0, 0))] W') (by kernel_rfl) (lv_drew (lv_sub (sk (sd (sk (sk sn)))) hL)) (fun hHeld => ?_)
  replace hL := lv_drew hL
  obtain ⟨D19, hD20⟩ : ∃ W0, World.drew W17 = W0 := ⟨_, rfl⟩
  rw [hD20] at hHeld hL ⊢
  clear hD20
  refine tk 0 o13_2_0 (v := ?_) ?_ ?_
  rotate_left
  · intro w hSw
    obtain ⟨k0, k1, k2, k3⟩ := lv_cells4 hSw lm0
    delta o13_2_0
    go_simp
    try with_reducible rfl
  try simp only [Act.put, o13_2_0, List.setIfInBounds_toArray, List.set_cons_zero, List.set_cons_succ]
  refine tk 1 o13_2_1 (v := ?_) ?_ ?_
  rotate_left
  · intro w hSw
    obtain ⟨k0, k1, k2, k3⟩ := lv_cells4 hSw lm2
    delta o13_2_1
    go_simp
    try with_reducible rfl
  try simp only [Act.put, o13_2_1, List.setIfInBounds_toArray, List.set_cons_zero, List.set_cons_succ]
  refine tk 3 o13_2_3 (v := ?_) ?_ ?_
  rotate_left
  · intro w hSw
    obtain ⟨k0, k1, k2, k3⟩ := lv_cells4 hSw lm1
    delta o13_2_3
    go_simp
    try with_reducible rfl
  try simp only [Act.put, o13_2_3, List.setIfInBounds_toArray, List.set_cons_zero, List.set_cons_succ]
  refine rd1 2 o13_2_2 (fun K hK => ?_)
  delta o13_2_2
  go_simp
  refine (low_c ha Xh5.out _).mono ?_
  rintro e W21 ⟨rfl, hBl⟩
  replace hL := lv_below hL hBl
  clear hBl
  refine hK.out _ _ (lv_sub (sk (sd (sk (sk sn)))) hL) (fun hHeld2 => ?_)
  clear hK K hHeld
  have hHeld := hHeld2
  clear hHeld2
  try simp only [Act.put, o13_2_2, List.setIfInBounds_toArray, List.set_cons_zero, List.set_cons_succ]
  refine rd1 4 o13_2_4 (fun K hK => ?_)
  delta o13_2_4
  go_simp
  refine (low_c hb Xh6.out _).mono ?_
  rintro e W22 ⟨rfl, hBl⟩
  replace hL := lv_below hL hBl
  clear hBl
  refine hK.out _ _ (lv_sub (sk (sd (sk (sk sn)))) hL) (fun hHeld2 => ?_)
  clear hK K hHeld
  have hHeld := hHeld2
  clear hHeld2
  try simp only [Act.put, o13_2_4, List.setIfInBounds_toArray, List.set_cons_zero, List.set_cons_succ]
  refine tk 5 o13_2_5 (v := ?_) ?_ ?_
  rotate_left
  · intro w hSw
    delta o13_2_5
    go_simp
    try with_reducible rfl
  try simp only [Act.put, o13_2_5, List.setIfInBounds_toArray, List.set_cons_zero, List.set_cons_succ]
  refine tk 6 o13_2_6 (v := ?_) ?_ ?_
  rotate_left
  · intro w hSw
    delta o13_2_6
    go_simp
    try with_reducible rfl
  try simp only [Act.put, o13_2_6, List.setIfInBounds_toArray, List.set_cons_zero, List.set_cons_succ]
  refine tk 7 o13_2_7 (v := ?_) ?_ ?_
  rotate_left
  · intro w hSw
    obtain ⟨k0, k1, k2, k3⟩ := lv_cells4 hSw lm0
    delta o13_2_7
    go_simp
    try with_reducible rfl
  try simp only [Act.put, o13_2_7, List.setIfInBounds_toArray, List.set_cons_zero, List.set_cons_succ]
  refine tk 9 o13_2_9 (v := ?_) ?_ ?_
  rotate_left
  · intro w hSw
    obtain ⟨k0, k1, k2, k3⟩ := lv_cells4 hSw lm2
    delta o13_2_9
    go_simp
    try with_reducible rfl
  try simp only [Act.put, o13_2_9, List.setIfInBounds_toArray, List.set_cons_zero, List.set_cons_succ]
  refine rd1 8 o13_2_8 (fun K hK => ?_)
  delta o13_2_8
  go_simp
  refine (low_c hr Xh8.out _).mono ?_
  rintro e W23 ⟨rfl, hBl⟩
  replace hL := lv_below hL hBl
  clear hBl
  refine hK.out _ _ (lv_sub (sk (sd (sk (sk sn)))) hL) (fun hHeld2 => ?_)
  clear hK K hHeld
  have hHeld := hHeld2
  clear hHeld2
  try simp only [Act.put, o13_2_8, List.setIfInBounds_toArray, List.set_cons_zero, List.set_cons_succ]
  refine rd1 10 o13_2_10 (fun K hK => ?_)
  delta o13_2_10
  go_simp
  refine (low_c ha Xh5.out _).mono ?_
  rintro e W24 ⟨rfl, hBl⟩
  replace hL := lv_below hL hBl
  clear hBl
  refine hK.out _ _ (lv_sub (sk (sd (sk (sk sn)))) hL) (fun hHeld2 => ?_)
  clear hK K hHeld
  have hHeld := hHeld2
  clear hHeld2
  try simp only [Act.put, o13_2_10, List.setIfInBounds_toArray, List.set_cons_zero, List.set_cons_succ]
  refine tk 11 o13_2_11 (v := ?_) ?_ ?_
  rotate_left
  · intro w hSw
    delta o13_2_11
    go_simp
    try with_reducible rfl
  try simp only [Act.put, o13_2_11, List.setIfInBounds_toArray, List.set_cons_zero, List.set_cons_succ]
  refine tk 12 o13_2_12 (v := ?_) ?_ ?_
  rotate_left
  · intro w hSw
    delta o13_2_12
    go_simp
    try with_reducible rfl
  try simp only [Act.put, o13_2_12, List.setIfInBounds_toArray, List.set_cons_zero, List.set_cons_succ]
  refine rd1 13 o13_2_13 (fun K hK => ?_)
  obtain ⟨k0, k1, k2, k3⟩ := lv_cells4 hL lm1
  have z0 := lv_frozen hL lm1 0
  have z1 := lv_frozen hL lm1 1
  have z2 := lv_frozen hL lm1 2
  have z3 := lv_frozen hL lm1 3
  delta o13_2_13
  go_simp
  clear k0 z0 k1 z1 k2 z2 k3 z3
  obtain ⟨V25, hVx, hL2⟩ : ∃ V, (World.setCell (World.setCell (World.setCell (World.setCell W24 ⟨B11, 0, none⟩ (.int .u64 (r 0))) ⟨B11, 1, none⟩ (.int .u64 (r 1))) ⟨B11, 2, none⟩ (.int .u64 (r 2))) ⟨B11, 3, none⟩ (.int .u64 (r 3))) = V ∧ Lv w [(B18, Obj.cells #[.int .u64 (r 0), .int .u64 (r 1), .int .u64 (r 2), .int .u64 (r 3)] 24 (0, 0)), (B11, Obj.cells #[.int .u64 (r 0), .int .u64 (r 1), .int .u64 (r 2), .int .u64 (r 3)] 24 (0, 0)), (B6, Obj.cells #[.int .u64 (b 0), .int .u64 (b 1), .int .u64 (b 2), .int .u64 (b 3)] 24 (0, 0)), (B2, Obj.cells #[.int .u64 (a 0), .int .u64 (a 1), .int .u64 (a 2), .int .u64 (a 3)] 24 (0, 0))] V := ⟨_, rfl, lv_store4 [(B18, Obj.cells #[.int .u64 (r 0), .int .u64 (r 1), .int .u64 (r 2), .int .u64 (r 3)] 24 (0, 0))] hL _ _ _ _⟩
  rw [hVx]
  clear hVx hL
  have hL := hL2
  clear hL2
  refine hK.out _ _ (lv_sub (sk (sd (sk (sk sn)))) hL) (fun hHeld2 => ?_)
  clear hK K hHeld
  have hHeld := hHeld2
  clear hHeld2
  try simp only [Act.put, o13_2_13, List.setIfInBounds_toArray, List.set_cons_zero, List.set_cons_succ]
  refine tk 14 o13_2_14 (v := ?_) ?_ ?_
  rotate_left
  · intro w hSw
    delta o13_2_14
    go_simp
    try with_reducible rfl
  try simp only [Act.put, o13_2_14, List.setIfInBounds_toArray, List.set_cons_zero, List.set_cons_succ]
  refine wpAnyH_done (by kernel_rfl) ?_ _
  clear hHeld
  go_wp2_with fail
  obtain ⟨k26, k27, k28, k29⟩ := lv_cells4 hL lm1
  refine bodyPost_ret (v := .tuple #[.agg #[.int .u64 (r 0), .int .u64 (r 1), .int .u64 (r 2), .int .u64 (r 3)], .bool false]) (by simp [results, Try.results13, go_sem, k26, k27, k28, k29]) rfl ⟨rfl, hL.2.2.2⟩

set_option maxRecDepth 100000 in
set_option maxHeartbeats 4000000 in
theorem refsub_011 (a b d e n f r : Nat → Nat) (ha : Wds a) (hb : Wds b) (hd : Digs d) (he : Digs e) (hn : Digs n) (hf : Digs f) (hr : Wds r) (h1 : digR a = d) (h2 : digR b = e) (h3 : plusR d n 1 = f) (h4 : widR f = r) (h5 : lowB a = false) (h6 : lowB b = true) (h8 : lowB r = true) (h7 : notR e = n)  (w : World) :
    Calls Try.prog 13 #[.agg #[.int .u64 (a 0), .int .u64 (a 1), .int .u64 (a 2), .int .u64 (a 3)], .agg #[.int .u64 (b 0), .int .u64 (b 1), .int .u64 (b 2), .int .u64 (b 3)]] w fun ee w' => ee = .returned (.tuple #[.agg #[.int .u64 (r 0), .int .u64 (r 1), .int .u64 (r 2), .int .u64 (r 3)], .bool true]) ∧ Below w.heap.size w w' := by
  have Xh1 := Lib.hid h1
  have Xh2 := Lib.hid h2
  have Xh3 := Lib.hid h3
  have Xh4 := Lib.hid h4
  have Xh5 := Lib.hid h5
  have Xh6 := Lib.hid h6
  have Xh8 := Lib.hid h8
  have Xh7 := Lib.hid h7
  clear h1 h2 h3 h4 h5 h6 h8 h7
  have hL := lv_nil w
  go_enter Try.func13, Try.ntmps13
  go_wp2_with fail
  obtain ⟨V1, B2, hV3, hB4, hL⟩ := lv_grow hL (Obj.cells #[.int .u64 (a 0), .int .u64 (a 1), .int .u64 (a 2), .int .u64 (a 3)] 24)
  rw [hV3]
  try rw [hB4]
  obtain ⟨V5, B6, hV7, hB8, hL⟩ := lv_grow hL (Obj.cells #[.int .u64 (b 0), .int .u64 (b 1), .int .u64 (b 2), .int .u64 (b 3)] 24)
  rw [hV7]
  have hs9 : B2 + 1 = B6 := by rw [← hB8, ← hV3, World.size_alloc, hB4]
  try rw [hs9]
  clear hs9
  obtain ⟨V10, B11, hV12, hB13, hL⟩ := lv_grow hL (Obj.cells #[.int .u64 0, .int .u64 0, .int .u64 0, .int .u64 0] 24)
  rw [hV12]
  have hs14 : B6 + 1 = B11 := by rw [← hB13, ← hV7, World.size_alloc, hB8]
  try rw [hs14]
  clear hs14
  clear hV3 hB4 hV7 hB8 hV12 hB13
  refine Code.wp_mono ?_ (refsub_r1 w _ B11 B6 B2 a b d e n f r ha hb hd he hn hf Xh1 Xh2 Xh3 Xh4 Xh7 hL)
  rintro ee aa W17 ⟨rfl, B18, rfl, hL2⟩
  clear hL
  have hL := hL2
  clear hL2
  go_wp2_with fail
  refine wp_region_held_drew (S := fun W' => Lv w [(B18, Obj.cells #[.int .u64 (r 0), .int .u64 (r 1), .int .u64 (r 2), .int .u64 (r 3)] 24 (0, 0)), (B6, Obj.cells #[.int .u64 (b 0), .int .u64 (b 1), .int .u64 (b 2), .int .u64 (b 3)] 24 (0, 0)), (B2, Obj.cells #[.int .u64 (a 0), .int .u64 (a 1), .int .u64 (a 2), .int .u64 (a 3)] 24 (0, 0))] W') (by kernel_rfl) (lv_drew (lv_sub (sk (sd (sk (sk sn)))) hL)) (fun hHeld => ?_)
  replace hL := lv_drew hL
  obtain ⟨D19, hD20⟩ : ∃ W0, World.drew W17 = W0 := ⟨_, rfl⟩
  rw [hD20] at hHeld hL ⊢
  clear hD20
  refine tk 0 o13_2_0 (v := ?_) ?_ ?_
  rotate_left
  · intro w hSw
    obtain ⟨k0, k1, k2, k3⟩ := lv_cells4 hSw lm0
    delta o13_2_0
    go_simp
    try with_reducible rfl
  try simp only [Act.put, o13_2_0, List.setIfInBounds_toArray, List.set_cons_zero, List.set_cons_succ]
  refine tk 1 o13_2_1 (v := ?_) ?_ ?_
  rotate_left
  · intro w hSw
    obtain ⟨k0, k1, k2, k3⟩ := lv_cells4 hSw lm2
    delta o13_2_1
    go_simp
    try with_reducible rfl
  try simp only [Act.put, o13_2_1, List.setIfInBounds_toArray, List.set_cons_zero, List.set_cons_succ]
  refine tk 3 o13_2_3 (v := ?_) ?_ ?_
  rotate_left
  · intro w hSw
    obtain ⟨k0, k1, k2, k3⟩ := lv_cells4 hSw lm1
    delta o13_2_3
    go_simp
    try with_reducible rfl
  try simp only [Act.put, o13_2_3, List.setIfInBounds_toArray, List.set_cons_zero, List.set_cons_succ]
  refine rd1 2 o13_2_2 (fun K hK => ?_)
  delta o13_2_2
  go_simp
  refine (low_c ha Xh5.out _).mono ?_
  rintro e W21 ⟨rfl, hBl⟩
  replace hL := lv_below hL hBl
  clear hBl
  refine hK.out _ _ (lv_sub (sk (sd (sk (sk sn)))) hL) (fun hHeld2 => ?_)
  clear hK K hHeld
  have hHeld := hHeld2
  clear hHeld2
  try simp only [Act.put, o13_2_2, List.setIfInBounds_toArray, List.set_cons_zero, List.set_cons_succ]
  refine rd1 4 o13_2_4 (fun K hK => ?_)
  delta o13_2_4
  go_simp
  refine (low_c hb Xh6.out _).mono ?_
  rintro e W22 ⟨rfl, hBl⟩
  replace hL := lv_below hL hBl
  clear hBl
  refine hK.out _ _ (lv_sub (sk (sd (sk (sk sn)))) hL) (fun hHeld2 => ?_)
  clear hK K hHeld
  have hHeld := hHeld2
  clear hHeld2
  try simp only [Act.put, o13_2_4, List.setIfInBounds_toArray, List.set_cons_zero, List.set_cons_succ]
  refine tk 5 o13_2_5 (v := ?_) ?_ ?_
  rotate_left
  · intro w hSw
    delta o13_2_5
    go_simp
    try with_reducible rfl
  try simp only [Act.put, o13_2_5, List.setIfInBounds_toArray, List.set_cons_zero, List.set_cons_succ]
  refine tk 6 o13_2_6 (v := ?_) ?_ ?_
  rotate_left
  · intro w hSw
    delta o13_2_6
    go_simp
    try with_reducible rfl
  try simp only [Act.put, o13_2_6, List.setIfInBounds_toArray, List.set_cons_zero, List.set_cons_succ]
  refine tk 7 o13_2_7 (v := ?_) ?_ ?_
  rotate_left
  · intro w hSw
    obtain ⟨k0, k1, k2, k3⟩ := lv_cells4 hSw lm0
    delta o13_2_7
    go_simp
    try with_reducible rfl
  try simp only [Act.put, o13_2_7, List.setIfInBounds_toArray, List.set_cons_zero, List.set_cons_succ]
  refine tk 9 o13_2_9 (v := ?_) ?_ ?_
  rotate_left
  · intro w hSw
    obtain ⟨k0, k1, k2, k3⟩ := lv_cells4 hSw lm2
    delta o13_2_9
    go_simp
    try with_reducible rfl
  try simp only [Act.put, o13_2_9, List.setIfInBounds_toArray, List.set_cons_zero, List.set_cons_succ]
  refine rd1 8 o13_2_8 (fun K hK => ?_)
  delta o13_2_8
  go_simp
  refine (low_c hr Xh8.out _).mono ?_
  rintro e W23 ⟨rfl, hBl⟩
  replace hL := lv_below hL hBl
  clear hBl
  refine hK.out _ _ (lv_sub (sk (sd (sk (sk sn)))) hL) (fun hHeld2 => ?_)
  clear hK K hHeld
  have hHeld := hHeld2
  clear hHeld2
  try simp only [Act.put, o13_2_8, List.setIfInBounds_toArray, List.set_cons_zero, List.set_cons_succ]
  refine rd1 10 o13_2_10 (fun K hK => ?_)
  delta o13_2_10
  go_simp
  refine (low_c ha Xh5.out _).mono ?_
  rintro e W24 ⟨rfl, hBl⟩
  replace hL := lv_below hL hBl
  clear hBl
  refine hK.out _ _ (lv_sub (sk (sd (sk (sk sn)))) hL) (fun hHeld2 => ?_)
  clear hK K hHeld
  have hHeld := hHeld2
  clear hHeld2
  try simp only [Act.put, o13_2_10, List.setIfInBounds_toArray, List.set_cons_zero, List.set_cons_succ]
  refine tk 11 o13_2_11 (v := ?_) ?_ ?_
  rotate_left
  · intro w hSw
    delta o13_2_11
    go_simp
    try with_reducible rfl
  try simp only [Act.put, o13_2_11, List.setIfInBounds_toArray, List.set_cons_zero, List.set_cons_succ]
  refine tk 12 o13_2_12 (v := ?_) ?_ ?_
  rotate_left
  · intro w hSw
    delta o13_2_12
    go_simp
    try with_reducible rfl
  try simp only [Act.put, o13_2_12, List.setIfInBounds_toArray, List.set_cons_zero, List.set_cons_succ]
  refine rd1 13 o13_2_13 (fun K hK => ?_)
  obtain ⟨k0, k1, k2, k3⟩ := lv_cells4 hL lm1
  have z0 := lv_frozen hL lm1 0
  have z1 := lv_frozen hL lm1 1
  have z2 := lv_frozen hL lm1 2
  have z3 := lv_frozen hL lm1 3
  delta o13_2_13
  go_simp
  clear k0 z0 k1 z1 k2 z2 k3 z3
  obtain ⟨V25, hVx, hL2⟩ : ∃ V, (World.setCell (World.setCell (World.setCell (World.setCell W24 ⟨B11, 0, none⟩ (.int .u64 (r 0))) ⟨B11, 1, none⟩ (.int .u64 (r 1))) ⟨B11, 2, none⟩ (.int .u64 (r 2))) ⟨B11, 3, none⟩ (.int .u64 (r 3))) = V ∧ Lv w [(B18, Obj.cells #[.int .u64 (r 0), .int .u64 (r 1), .int .u64 (r 2), .int .u64 (r 3)] 24 (0, 0)), (B11, Obj.cells #[.int .u64 (r 0), .int .u64 (r 1), .int .u64 (r 2), .int .u64 (r 3)] 24 (0, 0)), (B6, Obj.cells #[.int .u64 (b 0), .int .u64 (b 1), .int .u64 (b 2), .int .u64 (b 3)] 24 (0, 0)), (B2, Obj.cells #[.int .u64 (a 0), .int .u64 (a 1), .int .u64 (a 2), .int .u64 (a 3)] 24 (0, 0))] V := ⟨_, rfl, lv_store4 [(B18, Obj.cells #[.int .u64 (r 0), .int .u64 (r 1), .int .u64 (r 2), .int .u64 (r 3)] 24 (0, 0))] hL _ _ _ _⟩
  rw [hVx]
  clear hVx hL
  have hL := hL2
  clear hL2
  refine hK.out _ _ (lv_sub (sk (sd (sk (sk sn)))) hL) (fun hHeld2 => ?_)
  clear hK K hHeld
  have hHeld := hHeld2
  clear hHeld2
  try simp only [Act.put, o13_2_13, List.setIfInBounds_toArray, List.set_cons_zero, List.set_cons_succ]
  refine tk 14 o13_2_14 (v := ?_) ?_ ?_
  rotate_left
  · intro w hSw
    delta o13_2_14
    go_simp
    try with_reducible rfl
  try simp only [Act.put, o13_2_14, List.setIfInBounds_toArray, List.set_cons_zero, List.set_cons_succ]
  refine wpAnyH_done (by kernel_rfl) ?_ _
  clear hHeld
  go_wp2_with fail
  obtain ⟨k26, k27, k28, k29⟩ := lv_cells4 hL lm1
  refine bodyPost_ret (v := .tuple #[.agg #[.int .u64 (r 0), .int .u64 (r 1), .int .u64 (r 2), .int .u64 (r 3)], .bool true]) (by simp [results, Try.results13, go_sem, k26, k27, k28, k29]) rfl ⟨rfl, hL.2.2.2⟩

set_option maxRecDepth 100000 in
set_option maxHeartbeats 4000000 in
theorem refsub_100 (a b d e n f r : Nat → Nat) (ha : Wds a) (hb : Wds b) (hd : Digs d) (he : Digs e) (hn : Digs n) (hf : Digs f) (hr : Wds r) (h1 : digR a = d) (h2 : digR b = e) (h3 : plusR d n 1 = f) (h4 : widR f = r) (h5 : lowB a = true) (h6 : lowB b = false) (h8 : lowB r = false) (h7 : notR e = n)  (w : World) :
    Calls Try.prog 13 #[.agg #[.int .u64 (a 0), .int .u64 (a 1), .int .u64 (a 2), .int .u64 (a 3)], .agg #[.int .u64 (b 0), .int .u64 (b 1), .int .u64 (b 2), .int .u64 (b 3)]] w fun ee w' => ee = .returned (.tuple #[.agg #[.int .u64 (r 0), .int .u64 (r 1), .int .u64 (r 2), .int .u64 (r 3)], .bool true]) ∧ Below w.heap.size w w' := by
  have Xh1 := Lib.hid h1
  have Xh2 := Lib.hid h2
  have Xh3 := Lib.hid h3
  have Xh4 := Lib.hid h4
  have Xh5 := Lib.hid h5
  have Xh6 := Lib.hid h6
  have Xh8 := Lib.hid h8
  have Xh7 := Lib.hid h7
  clear h1 h2 h3 h4 h5 h6 h8 h7
  have hL := lv_nil w
  go_enter Try.func13, Try.ntmps13
  go_wp2_with fail
  obtain ⟨V1, B2, hV3, hB4, hL⟩ := lv_grow hL (Obj.cells #[.int .u64 (a 0), .int .u64 (a 1), .int .u64 (a 2), .int .u64 (a 3)] 24)
  rw [hV3]
  try rw [hB4]
  obtain ⟨V5, B6, hV7, hB8, hL⟩ := lv_grow hL (Obj.cells #[.int .u64 (b 0), .int .u64 (b 1), .int .u64 (b 2), .int .u64 (b 3)] 24)
  rw [hV7]
  have hs9 : B2 + 1 = B6 := by rw [← hB8, ← hV3, World.size_alloc, hB4]
  try rw [hs9]
  clear hs9
  obtain ⟨V10, B11, hV12, hB13, hL⟩ := lv_grow hL (Obj.cells #[.int .u64 0, .int .u64 0, .int .u64 0, .int .u64 0] 24)
  rw [hV12]
  have hs14 : B6 + 1 = B11 := by rw [← hB13, ← hV7, World.size_alloc, hB8]
  try rw [hs14]
  clear hs14
  clear hV3 hB4 hV7 hB8 hV12 hB13
  refine Code.wp_mono ?_ (refsub_r1 w _ B11 B6 B2 a b d e n f r ha hb hd he hn hf Xh1 Xh2 Xh3 Xh4 Xh7 hL)
  rintro ee aa W17 ⟨rfl, B18, rfl, hL2⟩
  clear hL
  have hL := hL2
  clear hL2
  go_wp2_with fail
  refine wp_region_held_drew (S := fun W' => Lv w [(B18, Obj.cells #[.int .u64 (r 0), .int .u64 (r 1), .int .u64 (r 2), .int .u64 (r 3)] 24 (0, 0)), (B6, Obj.cells #[.int .u64 (b 0), .int .u64 (b 1), .int .u64 (b 2), .int .u64 (b 3)] 24 (0, 0)), (B2, Obj.cells #[.int .u64 (a 0), .int .u64 (a 1), .int .u64 (a 2), .int .u64 (a 3)] 24 (0, 0))] W') (by kernel_rfl) (lv_drew (lv_sub (sk (sd (sk (sk sn)))) hL)) (fun hHeld => ?_)
  replace hL := lv_drew hL
  obtain ⟨D19, hD20⟩ : ∃ W0, World.drew W17 = W0 := ⟨_, rfl⟩
  rw [hD20] at hHeld hL ⊢
  clear hD20
  refine tk 0 o13_2_0 (v := ?_) ?_ ?_
  rotate_left
  · intro w hSw
    obtain ⟨k0, k1, k2, k3⟩ := lv_cells4 hSw lm0
    delta o13_2_0
    go_simp
    try with_reducible rfl
  try simp only [Act.put, o13_2_0, List.setIfInBounds_toArray, List.set_cons_zero, List.set_cons_succ]
  refine tk 1 o13_2_1 (v := ?_) ?_ ?_
  rotate_left
  · intro w hSw
    obtain ⟨k0, k1, k2, k3⟩ := lv_cells4 hSw lm2
    delta o13_2_1
    go_simp
    try with_reducible rfl
  try simp only [Act.put, o13_2_1, List.setIfInBounds_toArray, List.set_cons_zero, List.set_cons_succ]
  refine tk 3 o13_2_3 (v := ?_) ?_ ?_
  rotate_left
  · intro w hSw
    obtain ⟨k0, k1, k2, k3⟩ := lv_cells4 hSw lm1
    delta o13_2_3
    go_simp
    try with_reducible rfl
  try simp only [Act.put, o13_2_3, List.setIfInBounds_toArray, List.set_cons_zero, List.set_cons_succ]
  refine rd1 2 o13_2_2 (fun K hK => ?_)
  delta o13_2_2
  go_simp
  refine (low_c ha Xh5.out _).mono ?_
  rintro e W21 ⟨rfl, hBl⟩
  replace hL := lv_below hL hBl
  clear hBl
  refine hK.out _ _ (lv_sub (sk (sd (sk (sk sn)))) hL) (fun hHeld2 => ?_)
  clear hK K hHeld
  have hHeld := hHeld2
  clear hHeld2
  try simp only [Act.put, o13_2_2, List.setIfInBounds_toArray, List.set_cons_zero, List.set_cons_succ]
  refine rd1 4 o13_2_4 (fun K hK => ?_)
  delta o13_2_4
  go_simp
  refine (low_c hb Xh6.out _).mono ?_
  rintro e W22 ⟨rfl, hBl⟩
  replace hL := lv_below hL hBl
  clear hBl
  refine hK.out _ _ (lv_sub (sk (sd (sk (sk sn)))) hL) (fun hHeld2 => ?_)
  clear hK K hHeld
  have hHeld := hHeld2
  clear hHeld2
  try simp only [Act.put, o13_2_4, List.setIfInBounds_toArray, List.set_cons_zero, List.set_cons_succ]
  refine tk 5 o13_2_5 (v := ?_) ?_ ?_
  rotate_left
  · intro w hSw
    delta o13_2_5
    go_simp
    try with_reducible rfl
  try simp only [Act.put, o13_2_5, List.setIfInBounds_toArray, List.set_cons_zero, List.set_cons_succ]
  refine tk 6 o13_2_6 (v := ?_) ?_ ?_
  rotate_left
  · intro w hSw
    delta o13_2_6
    go_simp
    try with_reducible rfl
  try simp only [Act.put, o13_2_6, List.setIfInBounds_toArray, List.set_cons_zero, List.set_cons_succ]
  refine tk 7 o13_2_7 (v := ?_) ?_ ?_
  rotate_left
  · intro w hSw
    obtain ⟨k0, k1, k2, k3⟩ := lv_cells4 hSw lm0
    delta o13_2_7
    go_simp
    try with_reducible rfl
  try simp only [Act.put, o13_2_7, List.setIfInBounds_toArray, List.set_cons_zero, List.set_cons_succ]
  refine tk 9 o13_2_9 (v := ?_) ?_ ?_
  rotate_left
  · intro w hSw
    obtain ⟨k0, k1, k2, k3⟩ := lv_cells4 hSw lm2
    delta o13_2_9
    go_simp
    try with_reducible rfl
  try simp only [Act.put, o13_2_9, List.setIfInBounds_toArray, List.set_cons_zero, List.set_cons_succ]
  refine rd1 8 o13_2_8 (fun K hK => ?_)
  delta o13_2_8
  go_simp
  refine (low_c hr Xh8.out _).mono ?_
  rintro e W23 ⟨rfl, hBl⟩
  replace hL := lv_below hL hBl
  clear hBl
  refine hK.out _ _ (lv_sub (sk (sd (sk (sk sn)))) hL) (fun hHeld2 => ?_)
  clear hK K hHeld
  have hHeld := hHeld2
  clear hHeld2
  try simp only [Act.put, o13_2_8, List.setIfInBounds_toArray, List.set_cons_zero, List.set_cons_succ]
  refine rd1 10 o13_2_10 (fun K hK => ?_)
  delta o13_2_10
  go_simp
  refine (low_c ha Xh5.out _).mono ?_
  rintro e W24 ⟨rfl, hBl⟩
  replace hL := lv_below hL hBl
  clear hBl
  refine hK.out _ _ (lv_sub (sk (sd (sk (sk sn)))) hL) (fun hHeld2 => ?_)
  clear hK K hHeld
  have hHeld := hHeld2
  clear hHeld2
  try simp only [Act.put, o13_2_10, List.setIfInBounds_toArray, List.set_cons_zero, List.set_cons_succ]
  refine tk 11 o13_2_11 (v := ?_) ?_ ?_
  rotate_left
  · intro w hSw
    delta o13_2_11
    go_simp
    try with_reducible rfl
  try simp only [Act.put, o13_2_11, List.setIfInBounds_toArray, List.set_cons_zero, List.set_cons_succ]
  refine tk 12 o13_2_12 (v := ?_) ?_ ?_
  rotate_left
  · intro w hSw
    delta o13_2_12
    go_simp
    try with_reducible rfl
  try simp only [Act.put, o13_2_12, List.setIfInBounds_toArray, List.set_cons_zero, List.set_cons_succ]
  refine rd1 13 o13_2_13 (fun K hK => ?_)
  obtain ⟨k0, k1, k2, k3⟩ := lv_cells4 hL lm1
  have z0 := lv_frozen hL lm1 0
  have z1 := lv_frozen hL lm1 1
  have z2 := lv_frozen hL lm1 2
  have z3 := lv_frozen hL lm1 3
  delta o13_2_13
  go_simp
  clear k0 z0 k1 z1 k2 z2 k3 z3
  obtain ⟨V25, hVx, hL2⟩ : ∃ V, (World.setCell (World.setCell (World.setCell (World.setCell W24 ⟨B11, 0, none⟩ (.int .u64 (r 0))) ⟨B11, 1, none⟩ (.int .u64 (r 1))) ⟨B11, 2, none⟩ (.int .u64 (r 2))) ⟨B11, 3, none⟩ (.int .u64 (r 3))) = V ∧ Lv w [(B18, Obj.cells #[.int .u64 (r 0), .int .u64 (r 1), .int .u64 (r 2), .int .u64 (r 3)] 24 (0, 0)), (B11, Obj.cells #[.int .u64 (r 0), .int .u64 (r 1), .int .u64 (r 2), .int .u64 (r 3)] 24 (0, 0)), (B6, Obj.cells #[.int .u64 (b 0), .int .u64 (b 1), .int .u64 (b 2), .int .u64 (b 3)] 24 (0, 0)), (B2, Obj.cells #[.int .u64 (a 0), .int .u64 (a 1), .int .u64 (a 2), .int .u64 (a 3)] 24 (0, 0))] V := ⟨_, rfl, lv_store4 [(B18, Obj.cells #[.int .u64 (r 0), .int .u64 (r 1), .int .u64 (r 2), .int .u64 (r 3)] 24 (0, 0))] hL _ _ _ _⟩
  rw [hVx]
  clear hVx hL
  have hL := hL2
  clear hL2
  refine hK.out _ _ (lv_sub (sk (sd (sk (sk sn)))) hL) (fun hHeld2 => ?_)
  clear hK K hHeld
  have hHeld := hHeld2
  clear hHeld2
  try simp only [Act.put, o13_2_13, List.setIfInBounds_toArray, List.set_cons_zero, List.set_cons_succ]
  refine tk 14 o13_2_14 (v := ?_) ?_ ?_
  rotate_left
  · intro w hSw
    delta o13_2_14
    go_simp
    try with_reducible rfl
  try simp only [Act.put, o13_2_14, List.setIfInBounds_toArray, List.set_cons_zero, List.set_cons_succ]
  refine wpAnyH_done (by kernel_rfl) ?_ _
  clear hHeld
  go_wp2_with fail
  obtain ⟨k26, k27, k28, k29⟩ := lv_cells4 hL lm1
  refine bodyPost_ret (v := .tuple #[.agg #[.int .u64 (r 0), .int .u64 (r 1), .int .u64 (r 2), .int .u64 (r 3)], .bool true]) (by simp [results, Try.results13, go_sem, k26, k27, k28, k29]) rfl ⟨rfl, hL.2.2.2⟩

set_option maxRecDepth 100000 in
set_option maxHeartbeats 4000000 in
theorem refsub_101 (a b d e n f r : Nat → Nat) (ha : Wds a) (hb : Wds b) (hd : Digs d) (he : Digs e) (hn : Digs n) (hf : Digs f) (hr : Wds r) (h1 : digR a = d) (h2 : digR b = e) (h3 : plusR d n 1 = f) (h4 : widR f = r) (h5 : lowB a = true) (h6 : lowB b = false) (h8 : lowB r = true) (h7 : notR e = n)  (w : World) :
    Calls Try.prog 13 #[.agg #[.int .u64 (a 0), .int .u64 (a 1), .int .u64 (a 2), .int .u64 (a 3)], .agg #[.int .u64 (b 0), .int .u64 (b 1), .int .u64 (b 2), .int .u64 (b 3)]] w fun ee w' => ee = .returned (.tuple #[.agg #[.int .u64 (r 0), .int .u64 (r 1), .int .u64 (r 2), .int .u64 (r 3)], .bool false]) ∧ Below w.heap.size w w' := by
  have Xh1 := Lib.hid h1
  have Xh2 := Lib.hid h2
  have Xh3 := Lib.hid h3
  have Xh4 := Lib.hid h4
  have Xh5 := Lib.hid h5
  have Xh6 := Lib.hid h6
  have Xh8 := Lib.hid h8
  have Xh7 := Lib.hid h7
  clear h1 h2 h3 h4 h5 h6 h8 h7
  have hL := lv_nil w
  go_enter Try.func13, Try.ntmps13
  go_wp2_with fail
  obtain ⟨V1, B2, hV3, hB4, hL⟩ := lv_grow hL (Obj.cells #[.int .u64 (a 0), .int .u64 (a 1), .int .u64 (a 2), .int .u64 (a 3)] 24)
  rw [hV3]
  try rw [hB4]
  obtain ⟨V5, B6, hV7, hB8, hL⟩ := lv_grow hL (Obj.cells #[.int .u64 (b 0), .int .u64 (b 1), .int .u64 (b 2), .int .u64 (b 3)] 24)
  rw [hV7]
  have hs9 : B2 + 1 = B6 := by rw [← hB8, ← hV3, World.size_alloc, hB4]
  try rw [hs9]
  clear hs9
  obtain ⟨V10, B11, hV12, hB13, hL⟩ := lv_grow hL (Obj.cells #[.int .u64 0, .int .u64 0, .int .u64 0, .int .u64 0] 24)
  rw [hV12]
  have hs14 : B6 + 1 = B11 := by rw [← hB13, ← hV7, World.size_alloc, hB8]
  try rw [hs14]
  clear hs14
  clear hV3 hB4 hV7 hB8 hV12 hB13
  refine Code.wp_mono ?_ (refsub_r1 w _ B11 B6 B2 a b d e n f r ha hb hd he hn hf Xh1 Xh2 Xh3 Xh4 Xh7 hL)
  rintro ee aa W17 ⟨rfl, B18, rfl, hL2⟩
  clear hL
  have hL := hL2
  clear hL2
  go_wp2_with fail
  refine wp_region_held_drew (S := fun W' => Lv w [(B18, Obj.cells #[.int .u64 (r 0), .int .u64 (r 1), .int .u64 (r 2), .int .u64 (r 3)] 24 (0, 0)), (B6, Obj.cells #[.int .u64 (b 0), .int .u64 (b 1), .int .u64 (b 2), .int .u64 (b 3)] 24 (0, 0)), (B2, Obj.cells #[.int .u64 (a 0), .int .u64 (a 1), .int .u64 (a 2), .int .u64 (a 3)] 24 (0, 0))] W') (by kernel_rfl) (lv_drew (lv_sub (sk (sd (sk (sk sn)))) hL)) (fun hHeld => ?_)
  replace hL := lv_drew hL
  obtain ⟨D19, hD20⟩ : ∃ W0, World.drew W17 = W0 := ⟨_, rfl⟩
  rw [hD20] at hHeld hL ⊢
  clear hD20
  refine tk 0 o13_2_0 (v := ?_) ?_ ?_
  rotate_left
  · intro w hSw
    obtain ⟨k0, k1, k2, k3⟩ := lv_cells4 hSw lm0
    delta o13_2_0
    go_simp
    try with_reducible rfl
  try simp only [Act.put, o13_2_0, List.setIfInBounds_toArray, List.set_cons_zero, List.set_cons_succ]
  refine tk 1 o13_2_1 (v := ?_) ?_ ?_
  rotate_left
  · intro w hSw
    obtain ⟨k0, k1, k2, k3⟩ := lv_cells4 hSw lm2
    delta o13_2_1
    go_simp
    try with_reducible rfl
  try simp only [Act.put, o13_2_1, List.setIfInBounds_toArray, List.set_cons_zero, List.set_cons_succ]
  refine tk 3 o13_2_3 (v := ?_) ?_ ?_
  rotate_left
  · intro w hSw
    obtain ⟨k0, k1, k2, k3⟩ := lv_cells4 hSw lm1
    delta o13_2_3
    go_simp
    try with_reducible rfl
  try simp only [Act.put, o13_2_3, List.setIfInBounds_toArray, List.set_cons_zero, List.set_cons_succ]
  refine rd1 2 o13_2_2 (fun K hK => ?_)
  delta o13_2_2
  go_simp
  refine (low_c ha Xh5.out _).mono ?_
  rintro e W21 ⟨rfl, hBl⟩
  replace hL := lv_below hL hBl
  clear hBl
  refine hK.out _ _ (lv_sub (sk (sd (sk (sk sn)))) hL) (fun hHeld2 => ?_)
  clear hK K hHeld
  have hHeld := hHeld2
  clear hHeld2
  try simp only [Act.put, o13_2_2, List.setIfInBounds_toArray, List.set_cons_zero, List.set_cons_succ]
  refine rd1 4 o13_2_4 (fun K hK => ?_)
  delta o13_2_4
  go_simp
  refine (low_c hb Xh6.out _).mono ?_
  rintro e W22 ⟨rfl, hBl⟩
  replace hL := lv_below hL hBl
  clear hBl
  refine hK.out _ _ (lv_sub (sk (sd (sk (sk sn)))) hL) (fun hHeld2 => ?_)
  clear hK K hHeld
  have hHeld := hHeld2
  clear hHeld2
  try simp only [Act.put, o13_2_4, List.setIfInBounds_toArray, List.set_cons_zero, List.set_cons_succ]
  refine tk 5 o13_2_5 (v := ?_) ?_ ?_
  rotate_left
  · intro w hSw
    delta o13_2_5
    go_simp
    try with_reducible rfl
  try simp only [Act.put, o13_2_5, List.setIfInBounds_toArray, List.set_cons_zero, List.set_cons_succ]
  refine tk 6 o13_2_6 (v := ?_) ?_ ?_
  rotate_left
  · intro w hSw
    delta o13_2_6
    go_simp
    try with_reducible rfl
  try simp only [Act.put, o13_2_6, List.setIfInBounds_toArray, List.set_cons_zero, List.set_cons_succ]
  refine tk 7 o13_2_7 (v := ?_) ?_ ?_
  rotate_left
  · intro w hSw
    obtain ⟨k0, k1, k2, k3⟩ := lv_cells4 hSw lm0
    delta o13_2_7
    go_simp
    try with_reducible rfl
  try simp only [Act.put, o13_2_7, List.setIfInBounds_toArray, List.set_cons_zero, List.set_cons_succ]
  refine tk 9 o13_2_9 (v := ?_) ?_ ?_
  rotate_left
  · intro w hSw
    obtain ⟨k0, k1, k2, k3⟩ := lv_cells4 hSw lm2
    delta o13_2_9
    go_simp
    try with_reducible rfl
  try simp only [Act.put, o13_2_9, List.setIfInBounds_toArray, List.set_cons_zero, List.set_cons_succ]
  refine rd1 8 o13_2_8 (fun K hK => ?_)
  delta o13_2_8
  go_simp
  refine (low_c hr Xh8.out _).mono ?_
  rintro e W23 ⟨rfl, hBl⟩
  replace hL := lv_below hL hBl
  clear hBl
  refine hK.out _ _ (lv_sub (sk (sd (sk (sk sn)))) hL) (fun hHeld2 => ?_)
  clear hK K hHeld
  have hHeld := hHeld2
  clear hHeld2
  try simp only [Act.put, o13_2_8, List.setIfInBounds_toArray, List.set_cons_zero, List.set_cons_succ]
  refine rd1 10 o13_2_10 (fun K hK => ?_)
  delta o13_2_10
  go_simp
  refine (low_c ha Xh5.out _).mono ?_
  rintro e W24 ⟨rfl, hBl⟩
  replace hL := lv_below hL hBl
  clear hBl
  refine hK.out _ _ (lv_sub (sk (sd (sk (sk sn)))) hL) (fun hHeld2 => ?_)
  clear hK K hHeld
  have hHeld := hHeld2
  clear hHeld2
  try simp only [Act.put, o13_2_10, List.setIfInBounds_toArray, List.set_cons_zero, List.set_cons_succ]
  refine tk 11 o13_2_11 (v := ?_) ?_ ?_
  rotate_left
  · intro w hSw
    delta o13_2_11
    go_simp
    try with_reducible rfl
  try simp only [Act.put, o13_2_11, List.setIfInBounds_toArray, List.set_cons_zero, List.set_cons_succ]
  refine tk 12 o13_2_12 (v := ?_) ?_ ?_
  rotate_left
  · intro w hSw
    delta o13_2_12
    go_simp
    try with_reducible rfl
  try simp only [Act.put, o13_2_12, List.setIfInBounds_toArray, List.set_cons_zero, List.set_cons_succ]
  refine rd1 13 o13_2_13 (fun K hK => ?_)
  obtain ⟨k0, k1, k2, k3⟩ := lv_cells4 hL lm1
  have z0 := lv_frozen hL lm1 0
  have z1 := lv_frozen hL lm1 1
  have z2 := lv_frozen hL lm1 2
  have z3 := lv_frozen hL lm1 3
  delta o13_2_13
  go_simp
  clear k0 z0 k1 z1 k2 z2 k3 z3
  obtain ⟨V25, hVx, hL2⟩ : ∃ V, (World.setCell (World.setCell (World.setCell (World.setCell W24 ⟨B11, 0, none⟩ (.int .u64 (r 0))) ⟨B11, 1, none⟩ (.int .u64 (r 1))) ⟨B11, 2, none⟩ (.int .u64 (r 2))) ⟨B11, 3, none⟩ (.int .u64 (r 3))) = V ∧ Lv w [(B18, Obj.cells #[.int .u64 (r 0), .int .u64 (r 1), .int .u64 (r 2), .int .u64 (r 3)] 24 (0, 0)), (B11, Obj.cells #[.int .u64 (r 0), .int .u64 (r 1), .int .u64 (r 2), .int .u64 (r 3)] 24 (0, 0)), (B6, Obj.cells #[.int .u64 (b 0), .int .u64 (b 1), .int .u64 (b 2), .int .u64 (b 3)] 24 (0, 0)), (B2, Obj.cells #[.int .u64 (a 0), .int .u64 (a 1), .int .u64 (a 2), .int .u64 (a 3)] 24 (0, 0))] V := ⟨_, rfl, lv_store4 [(B18, Obj.cells #[.int .u64 (r 0), .int .u64 (r 1), .int .u64 (r 2), .int .u64 (r 3)] 24 (0, 0))] hL _ _ _ _⟩
  rw [hVx]
  clear hVx hL
  have hL := hL2
  clear hL2
  refine hK.out _ _ (lv_sub (sk (sd (sk (sk sn)))) hL) (fun hHeld2 => ?_)
  clear hK K hHeld
  have hHeld := hHeld2
  clear hHeld2
  try simp only [Act.put, o13_2_13, List.setIfInBounds_toArray, List.set_cons_zero, List.set_cons_succ]
  refine tk 14 o13_2_14 (v := ?_) ?_ ?_
  rotate_left
  · intro w hSw
    delta o13_2_14
    go_simp
    try with_reducible rfl
  try simp only [Act.put, o13_2_14, List.setIfInBounds_toArray, List.set_cons_zero, List.set_cons_succ]
  refine wpAnyH_done (by kernel_rfl) ?_ _
  clear hHeld
  go_wp2_with fail
  obtain ⟨k26, k27, k28, k29⟩ := lv_cells4 hL lm1
  refine bodyPost_ret (v := .tuple #[.agg #[.int .u64 (r 0), .int .u64 (r 1), .int .u64 (r 2), .int .u64 (r 3)], .bool false]) (by simp [results, Try.results13, go_sem, k26, k27, k28, k29]) rfl ⟨rfl, hL.2.2.2⟩

set_option maxRecDepth 100000 in
set_option maxHeartbeats 4000000 in
theorem refsub_112 (a b d e n f r : Nat → Nat) (qr : Bool) (ha : Wds a) (hb : Wds b) (hd : Digs d) (he : Digs e) (hn : Digs n) (hf : Digs f) (hr : Wds r) (h1 : digR a = d) (h2 : digR b = e) (h3 : plusR d n 1 = f) (h4 : widR f = r) (h5 : lowB a = true) (h6 : lowB b = true) (h8 : lowB r = qr) (h7 : notR e = n)  (w : World) :
    Calls Try.prog 13 #[.agg #[.int .u64 (a 0), .int .u64 (a 1), .int .u64 (a 2), .int .u64 (a 3)], .agg #[.int .u64 (b 0), .int .u64 (b 1), .int .u64 (b 2), .int .u64 (b 3)]] w fun ee w' => ee = .returned (.tuple #[.agg #[.int .u64 (r 0), .int .u64 (r 1), .int .u64 (r 2), .int .u64 (r 3)], .bool false]) ∧ Below w.heap.size w w' := by
  have Xh1 := Lib.hid h1
  have Xh2 := Lib.hid h2
  have Xh3 := Lib.hid h3
  have Xh4 := Lib.hid h4
  have Xh5 := Lib.hid h5
  have Xh6 := Lib.hid h6
  have Xh8 := Lib.hid h8
  have Xh7 := Lib.hid h7
  clear h1 h2 h3 h4 h5 h6 h8 h7
  have hL := lv_nil w
  go_enter Try.func13, Try.ntmps13
  go_wp2_with fail
  obtain ⟨V1, B2, hV3, hB4, hL⟩ := lv_grow hL (Obj.cells #[.int .u64 (a 0), .int .u64 (a 1), .int .u64 (a 2), .int .u64 (a 3)] 24)
  rw [hV3]
  try rw [hB4]
  obtain ⟨V5, B6, hV7, hB8, hL⟩ := lv_grow hL (Obj.cells #[.int .u64 (b 0), .int .u64 (b 1), .int .u64 (b 2), .int .u64 (b 3)] 24)
  rw [hV7]
  have hs9 : B2 + 1 = B6 := by rw [← hB8, ← hV3, World.size_alloc, hB4]
  try rw [hs9]
  clear hs9
  obtain ⟨V10, B11, hV12, hB13, hL⟩ := lv_grow hL (Obj.cells #[.int .u64 0, .int .u64 0, .int .u64 0, .int .u64 0] 24)
  rw [hV12]
  have hs14 : B6 + 1 = B11 := by rw [← hB13, ← hV7, World.size_alloc, hB8]
  try rw [hs14]
  clear hs14
  clear hV3 hB4 hV7 hB8 hV12 hB13
  refine Code.wp_mono ?_ (refsub_r1 w _ B11 B6 B2 a b d e n f r ha hb hd he hn hf Xh1 Xh2 Xh3 Xh4 Xh7 hL)
  rintro ee aa W17 ⟨rfl, B18, rfl, hL2⟩
  clear hL
  have hL := hL2
  clear hL2
  go_wp2_with fail
  refine wp_region_held_drew (S := fun W' => Lv w [(B18, Obj.cells #[.int .u64 (r 0), .int .u64 (r 1), .int .u64 (r 2), .int .u64 (r 3)] 24 (0, 0)), (B6, Obj.cells #[.int .u64 (b 0), .int .u64 (b 1), .int .u64 (b 2), .int .u64 (b 3)] 24 (0, 0)), (B2, Obj.cells #[.int .u64 (a 0), .int .u64 (a 1), .int .u64 (a 2), .int .u64 (a 3)] 24 (0, 0))] W') (by kernel_rfl) (lv_drew (lv_sub (sk (sd (sk (sk sn)))) hL)) (fun hHeld => ?_)
  replace hL := lv_drew hL
  obtain ⟨D19, hD20⟩ : ∃ W0, World.drew W17 = W0 := ⟨_, rfl⟩
  rw [hD20] at hHeld hL ⊢
  clear hD20
  refine tk 0 o13_2_0 (v := ?_) ?_ ?_
  rotate_left
  · intro w hSw
    obtain ⟨k0, k1, k2, k3⟩ := lv_cells4 hSw lm0
    delta o13_2_0
    go_simp
    try with_reducible rfl
  try simp only [Act.put, o13_2_0, List.setIfInBounds_toArray, List.set_cons_zero, List.set_cons_succ]
  refine tk 1 o13_2_1 (v := ?_) ?_ ?_
  rotate_left
  · intro w hSw
    obtain ⟨k0, k1, k2, k3⟩ := lv_cells4 hSw lm2
    delta o13_2_1
    go_simp
    try with_reducible rfl
  try simp only [Act.put, o13_2_1, List.setIfInBounds_toArray, List.set_cons_zero, List.set_cons_succ]
  refine tk 3 o13_2_3 (v := ?_) ?_ ?_
  rotate_left
  · intro w hSw
    obtain ⟨k0, k1, k2, k3⟩ := lv_cells4 hSw lm1
    delta o13_2_3
    go_simp
    try with_reducible rfl
  try simp only [Act.put, o13_2_3, List.setIfInBounds_toArray, List.set_cons_zero, List.set_cons_succ]
  refine rd1 2 o13_2_2 (fun K hK => ?_)
  delta o13_2_2
  go_simp
  refine (low_c ha Xh5.out _).mono ?_
  rintro e W21 ⟨rfl, hBl⟩
  replace hL := lv_below hL hBl
  clear hBl
  refine hK.out _ _ (lv_sub (sk (sd (sk (sk sn)))) hL) (fun hHeld2 => ?_)
  clear hK K hHeld
  have hHeld := hHeld2
  clear hHeld2
  try simp only [Act.put, o13_2_2, List.setIfInBounds_toArray, List.set_cons_zero, List.set_cons_succ]
  refine rd1 4 o13_2_4 (fun K hK => ?_)
  delta o13_2_4
  go_simp
  refine (low_c hb Xh6.out _).mono ?_
  rintro e W22 ⟨rfl, hBl⟩
  replace hL := lv_below hL hBl
  clear hBl
  refine hK.out _ _ (lv_sub (sk (sd (sk (sk sn)))) hL) (fun hHeld2 => ?_)
  clear hK K hHeld
  have hHeld := hHeld2
  clear hHeld2
  try simp only [Act.put, o13_2_4, List.setIfInBounds_toArray, List.set_cons_zero, List.set_cons_succ]
  refine tk 5 o13_2_5 (v := ?_) ?_ ?_
  rotate_left
  · intro w hSw
    delta o13_2_5
    go_simp
    try with_reducible rfl
  try simp only [Act.put, o13_2_5, List.setIfInBounds_toArray, List.set_cons_zero, List.set_cons_succ]
  refine tk 6 o13_2_6 (v := ?_) ?_ ?_
  rotate_left
  · intro w hSw
    delta o13_2_6
    go_simp
    try with_reducible rfl
  try simp only [Act.put, o13_2_6, List.setIfInBounds_toArray, List.set_cons_zero, List.set_cons_succ]
  refine tu 7 o13_2_7 ?_
  try simp only [Act.put, o13_2_7, List.setIfInBounds_toArray, List.set_cons_zero, List.set_cons_succ]
  refine tu 9 o13_2_9 ?_
  try simp only [Act.put, o13_2_9, List.setIfInBounds_toArray, List.set_cons_zero, List.set_cons_succ]
  refine rd1 8 o13_2_8 (fun K hK => ?_)
  delta o13_2_8
  go_simp
  refine hK.out _ _ hHeld (fun hHeld2 => ?_)
  clear hK K hHeld
  have hHeld := hHeld2
  clear hHeld2
  try simp only [Act.put, o13_2_8, List.setIfInBounds_toArray, List.set_cons_zero, List.set_cons_succ]
  refine rd1 10 o13_2_10 (fun K hK => ?_)
  delta o13_2_10
  go_simp
  refine hK.out _ _ hHeld (fun hHeld2 => ?_)
  clear hK K hHeld
  have hHeld := hHeld2
  clear hHeld2
  try simp only [Act.put, o13_2_10, List.setIfInBounds_toArray, List.set_cons_zero, List.set_cons_succ]
  refine tu 11 o13_2_11 ?_
  try simp only [Act.put, o13_2_11, List.setIfInBounds_toArray, List.set_cons_zero, List.set_cons_succ]
  refine tk 12 o13_2_12 (v := ?_) ?_ ?_
  rotate_left
  · intro w hSw
    delta o13_2_12
    go_simp
    try with_reducible rfl
  try simp only [Act.put, o13_2_12, List.setIfInBounds_toArray, List.set_cons_zero, List.set_cons_succ]
  refine rd1 13 o13_2_13 (fun K hK => ?_)
  obtain ⟨k0, k1, k2, k3⟩ := lv_cells4 hL lm1
  have z0 := lv_frozen hL lm1 0
  have z1 := lv_frozen hL lm1 1
  have z2 := lv_frozen hL lm1 2
  have z3 := lv_frozen hL lm1 3
  delta o13_2_13
  go_simp
  clear k0 z0 k1 z1 k2 z2 k3 z3
  obtain ⟨V23, hVx, hL2⟩ : ∃ V, (World.setCell (World.setCell (World.setCell (World.setCell W22 ⟨B11, 0, none⟩ (.int .u64 (r 0))) ⟨B11, 1, none⟩ (.int .u64 (r 1))) ⟨B11, 2, none⟩ (.int .u64 (r 2))) ⟨B11, 3, none⟩ (.int .u64 (r 3))) = V ∧ Lv w [(B18, Obj.cells #[.int .u64 (r 0), .int .u64 (r 1), .int .u64 (r 2), .int .u64 (r 3)] 24 (0, 0)), (B11, Obj.cells #[.int .u64 (r 0), .int .u64 (r 1), .int .u64 (r 2), .int .u64 (r 3)] 24 (0, 0)), (B6, Obj.cells #[.int .u64 (b 0), .int .u64 (b 1), .int .u64 (b 2), .int .u64 (b 3)] 24 (0, 0)), (B2, Obj.cells #[.int .u64 (a 0), .int .u64 (a 1), .int .u64 (a 2), .int .u64 (a 3)] 24 (0, 0))] V := ⟨_, rfl, lv_store4 [(B18, Obj.cells #[.int .u64 (r 0), .int .u64 (r 1), .int .u64 (r 2), .int .u64 (r 3)] 24 (0, 0))] hL _ _ _ _⟩
  rw [hVx]
  clear hVx hL
  have hL := hL2
  clear hL2
  refine hK.out _ _ (lv_sub (sk (sd (sk (sk sn)))) hL) (fun hHeld2 => ?_)
  clear hK K hHeld
  have hHeld := hHeld2
  clear hHeld2
  try simp only [Act.put, o13_2_13, List.setIfInBounds_toArray, List.set_cons_zero, List.set_cons_succ]
  refine tk 14 o13_2_14 (v := ?_) ?_ ?_
  rotate_left
  · intro w hSw
    delta o13_2_14
    go_simp
    try with_reducible rfl
  try simp only [Act.put, o13_2_14, List.setIfInBounds_toArray, List.set_cons_zero, List.set_cons_succ]
  refine wpAnyH_done (by kernel_rfl) ?_ _
  clear hHeld
  go_wp2_with fail
  obtain ⟨k24, k25, k26, k27⟩ := lv_cells4 hL lm1
  refine bodyPost_ret (v := .tuple #[.agg #[.int .u64 (r 0), .int .u64 (r 1), .int .u64 (r 2), .int .u64 (r 3)], .bool false]) (by simp [results, Try.results13, go_sem, k24, k25, k26, k27]) rfl ⟨rfl, hL.2.2.2⟩

end Go.Proofs.Ytecgclkjglkkbaa
