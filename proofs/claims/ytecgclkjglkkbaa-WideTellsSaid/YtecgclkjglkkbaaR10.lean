/- Contract of the document's own function Int; Mul's blocks. -/
import Derived.Test.YtecgclkjglkkbaaR8
import Derived.Test.YtecgclkjglkkbaaR9
namespace Go.Proofs.Ytecgclkjglkkbaa
open Go Go.RowKit Go.Shelf
set_option linter.unusedSimpArgs false
set_option linter.unusedVariables false

theorem refof_c {n : Int} {r : Nat → Nat} (h1 : -9223372036854775808 ≤ n) (h2 : n ≤ 9223372036854775807) (hr : ofR n = r) (w : World) : Calls Try.prog 23 #[.int .i64 n] w fun ee w' => ee = .returned (.agg #[.int .u64 (r 0), .int .u64 (r 1), .int .u64 (r 2), .int .u64 (r 3)]) ∧ Below w.heap.size w w' := by subst hr; exact refof_x n h1 h2 w

def o21_2_0 : Oper := { dst := some 8, op := Go.Op.move (Go.Operand.tmp 4), type := 3, pos := "ref.go:54", after := #[], guard := none }
def o21_2_1 : Oper := { dst := some 9, op := Go.Op.call { callee := Go.Callee.value (Go.Operand.func 23), args := #[Go.Operand.tmp 8], argTypes := #[3] }, type := 24, pos := "ref.go:54", after := #[{ on := 0, ground := Go.Ground.data }], guard := none }
def o21_2_2 : Oper := { dst := some 10, op := Go.Op.load 24 (Go.Operand.tmp 1), type := 24, pos := "ref.go:54", after := #[], guard := none }
def o21_2_3 : Oper := { dst := some 11, op := Go.Op.binOp Go.BinOp.neq 24 (Go.Operand.tmp 9) (Go.Operand.tmp 10) 24, type := 4, pos := "ref.go:54", after := #[{ on := 1, ground := Go.Ground.data }, { on := 2, ground := Go.Ground.data }], guard := none }
attribute [local go_sem] o21_2_0 o21_2_1 o21_2_2 o21_2_3
set_option maxRecDepth 100000 in
set_option maxHeartbeats 4000000 in
theorem refint_0 (a r : Nat → Nat) (n : Int) (ha : Wds a) (h5 : -9223372036854775808 ≤ n) (h6 : n ≤ 9223372036854775807) (h1 : ofR n = r) (h2 : eqB r a = false) (h3 : wrap64 (a 0 : Int) = n) (w : World) :
    Calls Try.prog 21 #[.agg #[.int .u64 (a 0), .int .u64 (a 1), .int .u64 (a 2), .int .u64 (a 3)]] w fun ee w' => ee = .returned (.tuple #[.int .i64 0, .bool false]) ∧ Below w.heap.size w w' := by
  have E := fun w => eq_c h2 w
  clear h2
  have C := Lib.hid h3
  clear h3
  have Xh1 := Lib.hid h1
  clear h1
  have hL := lv_nil w
  go_enter Try.func21, Try.ntmps21
  go_wp2_with fail
  obtain ⟨V1, B2, hV3, hB4, hL⟩ := lv_grow hL (Obj.cells #[.int .u64 (a 0), .int .u64 (a 1), .int .u64 (a 2), .int .u64 (a 3)] 24)
  rw [hV3]
  try rw [hB4]
  clear hV3 hB4
  rw [C.out]
  refine wp_region_held_drew (S := fun W' => Lv w [(B2, Obj.cells #[.int .u64 (a 0), .int .u64 (a 1), .int .u64 (a 2), .int .u64 (a 3)] 24 (0, 0))] W') (by kernel_rfl) (lv_drew (lv_sub (sk sn) hL)) (fun hHeld => ?_)
  replace hL := lv_drew hL
  obtain ⟨D5, hD6⟩ : ∃ W0, World.drew V1 = W0 := ⟨_, rfl⟩
  rw [hD6] at hHeld hL ⊢
  clear hD6
  refine tk 0 o21_2_0 (v := ?_) ?_ ?_
  rotate_left
  · intro w hSw
    delta o21_2_0
    go_simp
    try with_reducible rfl
  try simp only [Act.put, o21_2_0, List.setIfInBounds_toArray, List.set_cons_zero, List.set_cons_succ]
  refine tk 2 o21_2_2 (v := ?_) ?_ ?_
  rotate_left
  · intro w hSw
    obtain ⟨k0, k1, k2, k3⟩ := lv_cells4 hSw lm0
    delta o21_2_2
    go_simp
    try with_reducible rfl
  try simp only [Act.put, o21_2_2, List.setIfInBounds_toArray, List.set_cons_zero, List.set_cons_succ]
  refine rd1 1 o21_2_1 (fun K hK => ?_)
  delta o21_2_1
  go_simp
  refine (refof_c h5 h6 Xh1.out _).mono ?_
  rintro e W7 ⟨rfl, hBl⟩
  replace hL := lv_below hL hBl
  clear hBl
  refine hK.out _ _ (lv_sub (sk sn) hL) (fun hHeld2 => ?_)
  clear hK K hHeld
  have hHeld := hHeld2
  clear hHeld2
  try simp only [Act.put, o21_2_1, List.setIfInBounds_toArray, List.set_cons_zero, List.set_cons_succ]
  refine tk 3 o21_2_3 (v := ?_) ?_ ?_
  rotate_left
  · intro w hSw
    delta o21_2_3
    go_simp
    try with_reducible rfl
  try simp only [Act.put, o21_2_3, List.setIfInBounds_toArray, List.set_cons_zero, List.set_cons_succ]
  refine wpAnyH_done (by kernel_rfl) ?_ _
  clear hHeld
  go_wp2_with fail
  go_ret2
  exact ⟨rfl, hL.2.2.2⟩

set_option maxRecDepth 100000 in
set_option maxHeartbeats 4000000 in
theorem refint_1 (a r : Nat → Nat) (n : Int) (ha : Wds a) (h5 : -9223372036854775808 ≤ n) (h6 : n ≤ 9223372036854775807) (h1 : ofR n = r) (h2 : eqB r a = true) (h3 : wrap64 (a 0 : Int) = n) (w : World) :
    Calls Try.prog 21 #[.agg #[.int .u64 (a 0), .int .u64 (a 1), .int .u64 (a 2), .int .u64 (a 3)]] w fun ee w' => ee = .returned (.tuple #[.int .i64 n, .bool true]) ∧ Below w.heap.size w w' := by
  have E := fun w => eq_c h2 w
  clear h2
  have C := Lib.hid h3
  clear h3
  have Xh1 := Lib.hid h1
  clear h1
  have hL := lv_nil w
  go_enter Try.func21, Try.ntmps21
  go_wp2_with fail
  obtain ⟨V1, B2, hV3, hB4, hL⟩ := lv_grow hL (Obj.cells #[.int .u64 (a 0), .int .u64 (a 1), .int .u64 (a 2), .int .u64 (a 3)] 24)
  rw [hV3]
  try rw [hB4]
  clear hV3 hB4
  rw [C.out]
  refine wp_region_held_drew (S := fun W' => Lv w [(B2, Obj.cells #[.int .u64 (a 0), .int .u64 (a 1), .int .u64 (a 2), .int .u64 (a 3)] 24 (0, 0))] W') (by kernel_rfl) (lv_drew (lv_sub (sk sn) hL)) (fun hHeld => ?_)
  replace hL := lv_drew hL
  obtain ⟨D5, hD6⟩ : ∃ W0, World.drew V1 = W0 := ⟨_, rfl⟩
  rw [hD6] at hHeld hL ⊢
  clear hD6
  refine tk 0 o21_2_0 (v := ?_) ?_ ?_
  rotate_left
  · intro w hSw
    delta o21_2_0
    go_simp
    try with_reducible rfl
  try simp only [Act.put, o21_2_0, List.setIfInBounds_toArray, List.set_cons_zero, List.set_cons_succ]
  refine tk 2 o21_2_2 (v := ?_) ?_ ?_
  rotate_left
  · intro w hSw
    obtain ⟨k0, k1, k2, k3⟩ := lv_cells4 hSw lm0
    delta o21_2_2
    go_simp
    try with_reducible rfl
  try simp only [Act.put, o21_2_2, List.setIfInBounds_toArray, List.set_cons_zero, List.set_cons_succ]
  refine rd1 1 o21_2_1 (fun K hK => ?_)
  delta o21_2_1
  go_simp
  refine (refof_c h5 h6 Xh1.out _).mono ?_
  rintro e W7 ⟨rfl, hBl⟩
  replace hL := lv_below hL hBl
  clear hBl
  refine hK.out _ _ (lv_sub (sk sn) hL) (fun hHeld2 => ?_)
  clear hK K hHeld
  have hHeld := hHeld2
  clear hHeld2
  try simp only [Act.put, o21_2_1, List.setIfInBounds_toArray, List.set_cons_zero, List.set_cons_succ]
  refine tk 3 o21_2_3 (v := ?_) ?_ ?_
  rotate_left
  · intro w hSw
    delta o21_2_3
    go_simp
    try with_reducible rfl
  try simp only [Act.put, o21_2_3, List.setIfInBounds_toArray, List.set_cons_zero, List.set_cons_succ]
  refine wpAnyH_done (by kernel_rfl) ?_ _
  clear hHeld
  go_wp2_with fail
  go_ret2
  exact ⟨rfl, hL.2.2.2⟩

theorem refint_x (a : Nat → Nat) (ha : Wds a) (w : World) : Calls Try.prog 21 #[.agg #[.int .u64 (a 0), .int .u64 (a 1), .int .u64 (a 2), .int .u64 (a 3)]] w fun ee w' => ee = .returned (.tuple #[.int .i64 (intI a), .bool (intB a)]) ∧ Below w.heap.size w w' := by
  have hi := intW_in (ha 0)
  have hc : wrap64 (a 0 : Int) = intW (a 0) := by
    have := ha 0
    unfold intW wrap64
    split <;> omega
  unfold intI
  cases hb : intB a with
  | true => rw [if_pos rfl]; exact refint_1 a _ _ ha hi.1 hi.2 rfl hb hc w
  | false => rw [if_neg (by simp)]; exact refint_0 a _ _ ha hi.1 hi.2 rfl hb hc w

end Go.Proofs.Ytecgclkjglkkbaa
