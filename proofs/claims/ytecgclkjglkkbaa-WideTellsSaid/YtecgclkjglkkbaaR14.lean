/- WideTells answers true at every input: the walk. -/
import Derived.Test.YtecgclkjglkkbaaR13
import Derived.Test.YtecgclkjglkkbaaWk
import Derived.Test.YtecgclkjglkkbaaH2
namespace Go.Proofs.Ytecgclkjglkkbaa
open Go Go.RowKit Go.Shelf
set_option linter.unusedSimpArgs false
set_option linter.unusedVariables false

theorem refsubn {a b r : Nat → Nat} {o : Bool} (ha : Wds a) (hb : Wds b) (h : subR a b = r) (h2 : subO a b = o) (w : World) : Calls Try.prog 13 #[.agg #[.int .u64 (a 0), .int .u64 (a 1), .int .u64 (a 2), .int .u64 (a 3)], .agg #[.int .u64 (b 0), .int .u64 (b 1), .int .u64 (b 2), .int .u64 (b 3)]] w fun ee w' => ee = .returned (.tuple #[.agg #[.int .u64 (r 0), .int .u64 (r 1), .int .u64 (r 2), .int .u64 (r 3)], .bool o]) ∧ Below w.heap.size w w' := by
  subst h h2; exact refsub_x a b ha hb w
theorem refmuln {a b r : Nat → Nat} {o : Bool} (ha : Wds a) (hb : Wds b) (h : mulR a b = r) (h2 : mulO a b = o) (w : World) : Calls Try.prog 15 #[.agg #[.int .u64 (a 0), .int .u64 (a 1), .int .u64 (a 2), .int .u64 (a 3)], .agg #[.int .u64 (b 0), .int .u64 (b 1), .int .u64 (b 2), .int .u64 (b 3)]] w fun ee w' => ee = .returned (.tuple #[.agg #[.int .u64 (r 0), .int .u64 (r 1), .int .u64 (r 2), .int .u64 (r 3)], .bool o]) ∧ Below w.heap.size w w' := by
  subst h h2; exact refmul_x a b ha hb w
theorem refintn {a : Nat → Nat} {n : Int} {o : Bool} (ha : Wds a) (h : intI a = n) (h2 : intB a = o) (w : World) : Calls Try.prog 21 #[.agg #[.int .u64 (a 0), .int .u64 (a 1), .int .u64 (a 2), .int .u64 (a 3)]] w fun ee w' => ee = .returned (.tuple #[.int .i64 n, .bool o]) ∧ Below w.heap.size w w' := by
  subst h h2; exact refint_x a ha w
theorem refcmpn {a b : Nat → Nat} {n : Int} (ha : Wds a) (hb : Wds b) (h : cmpR a b = n) (w : World) : Calls Try.prog 25 #[.agg #[.int .u64 (a 0), .int .u64 (a 1), .int .u64 (a 2), .int .u64 (a 3)], .agg #[.int .u64 (b 0), .int .u64 (b 1), .int .u64 (b 2), .int .u64 (b 3)]] w fun ee w' => ee = .returned (.int .i64 n) ∧ Below w.heap.size w w' := by
  subst h; exact refcmp_x a b ha hb w
theorem refsignn {a : Nat → Nat} {n : Int} (ha : Wds a) (h : signI a = n) (w : World) : Calls Try.prog 27 #[.agg #[.int .u64 (a 0), .int .u64 (a 1), .int .u64 (a 2), .int .u64 (a 3)]] w fun ee w' => ee = .returned (.int .i64 n) ∧ Below w.heap.size w w' := by
  subst h; exact refsign_x a ha w
theorem sumn {L : Nat → Nat → Nat} {bb oo n cap : Nat} {s : Nat → Nat} {o : Bool} {w W : World} (hcap : n ≤ cap) (hn : cap ≤ maxLen) (hS : SlA w bb oo n L) (hB : Below w.heap.size w W) (h : (sumSt L n).1 = s) (h2 : (sumSt L n).2 = o) : Calls Try.prog 18 #[.slice (some ⟨bb, oo, none⟩) n cap] W fun ee w' => ee = .returned (.tuple #[.agg #[.int .u64 (s 0), .int .u64 (s 1), .int .u64 (s 2), .int .u64 (s 3)], .bool o]) ∧ Below W.heap.size W w' := by
  subst h h2; exact sum_x L bb oo n cap hcap hn W (sla_below hS hB)
set_option maxRecDepth 100000 in
set_option maxHeartbeats 1000000 in
theorem sum_nil (p : Option Addr) (cap : Nat) (w : World) : Calls Try.prog 18 #[.slice p 0 cap] w fun ee w' => ee = .returned (.tuple #[.agg #[.int .u64 0, .int .u64 0, .int .u64 0, .int .u64 0], .bool false]) ∧ Below w.heap.size w w' := by
  have hL := lv_nil w
  go_enter Try.func18, Try.ntmps18
  go_wp2_with fail
  obtain ⟨V1, B2, hV3, hB4, hL⟩ := lv_grow hL (Obj.cells #[.int .u64 0, .int .u64 0, .int .u64 0, .int .u64 0] 24)
  rw [hV3]
  try rw [hB4]
  obtain ⟨V5, B6, hV7, hB8, hL⟩ := lv_grow hL (Obj.cells #[.int .u64 0, .int .u64 0, .int .u64 0, .int .u64 0] 24)
  rw [hV7]
  have hs9 : B2 + 1 = B6 := by rw [← hB8, ← hV3, World.size_alloc, hB4]
  try rw [hs9]
  clear hs9
  clear hV3 hB4 hV7 hB8
  go_loopw [5, 12] (fun v5 v12 wr => v12 = .int .i64 0 ∧ v5 = .bool false ∧ Lv w [(B6, Obj.cells #[.int .u64 0, .int .u64 0, .int .u64 0, .int .u64 0] 24 (0, 0)), (B2, Obj.cells #[.int .u64 0, .int .u64 0, .int .u64 0, .int .u64 0] 24 (0, 0))] wr) (fun _ _ _ => 0)
  case atStart => exact ⟨rfl, rfl, hL⟩
  case round =>
    clear hL
    obtain ⟨rfl, rfl, hL⟩ := hrel
    obtain ⟨q60, q61, q62, q63⟩ := lv_cells4 hL lm0
    obtain ⟨q64, q65, q66, q67⟩ := lv_cells4 hL lm1
    have z68 := lv_frozen hL lm1 0
    have z69 := lv_frozen hL lm1 1
    have z70 := lv_frozen hL lm1 2
    have z71 := lv_frozen hL lm1 3
    have d72 : B2 ≠ B6 := lv_dis hL (i := 0) (j := 1) (by omega) rfl rfl
    have d73 : B6 ≠ B2 := fun h => d72 h.symm
    go_wp2_with fail
    clear q60 q61 q62 q63 q64 q65 q66 q67 z68 z69 z70 z71 d72 d73
    obtain ⟨V74, hV75, hL⟩ : ∃ V, (World.setCell (World.setCell (World.setCell (World.setCell wr ⟨B2, 0, none⟩ (.int .u64 0)) ⟨B2, 1, none⟩ (.int .u64 0)) ⟨B2, 2, none⟩ (.int .u64 0)) ⟨B2, 3, none⟩ (.int .u64 0)) = V ∧ Lv w [(B6, Obj.cells #[.int .u64 0, .int .u64 0, .int .u64 0, .int .u64 0] 24 (0, 0)), (B2, Obj.cells #[.int .u64 0, .int .u64 0, .int .u64 0, .int .u64 0] 24 (0, 0))] V := ⟨_, rfl, lv_store4 [(B6, Obj.cells #[.int .u64 0, .int .u64 0, .int .u64 0, .int .u64 0] 24 (0, 0))] hL _ _ _ _⟩
    rw [hV75]
    clear hV75
    obtain ⟨k76, k77, k78, k79⟩ := lv_cells4 hL lm1
    refine bodyPost_ret (v := .tuple #[.agg #[.int .u64 0, .int .u64 0, .int .u64 0, .int .u64 0], .bool false]) (by simp [results, Try.results18, go_sem, k76, k77, k78, k79]) rfl ⟨rfl, hL.2.2.2⟩

theorem refsumn {L : Nat → Nat → Nat} {bb oo n cap : Nat} {s : Nat → Nat} {o : Bool} {w W : World} (hcap : n ≤ cap) (hn : cap ≤ maxLen) (hS : SlA w bb oo n L) (hB : Below w.heap.size w W) (h : (sumSt L n).1 = s) (h2 : (sumSt L n).2 = o) : Calls Try.prog 19 #[.slice (some ⟨bb, oo, none⟩) n cap] W fun ee w' => ee = .returned (.tuple #[.agg #[.int .u64 (s 0), .int .u64 (s 1), .int .u64 (s 2), .int .u64 (s 3)], .bool o]) ∧ Below W.heap.size W w' := by
  subst h h2; exact refsum_x L bb oo n cap hcap hn W (sla_below hS hB)
set_option maxRecDepth 100000 in
set_option maxHeartbeats 1000000 in
theorem refsum_nil (p : Option Addr) (cap : Nat) (w : World) : Calls Try.prog 19 #[.slice p 0 cap] w fun ee w' => ee = .returned (.tuple #[.agg #[.int .u64 0, .int .u64 0, .int .u64 0, .int .u64 0], .bool false]) ∧ Below w.heap.size w w' := by
  have hL := lv_nil w
  go_enter Try.func19, Try.ntmps19
  go_wp2_with fail
  obtain ⟨V1, B2, hV3, hB4, hL⟩ := lv_grow hL (Obj.cells #[.int .u64 0, .int .u64 0, .int .u64 0, .int .u64 0] 24)
  rw [hV3]
  try rw [hB4]
  obtain ⟨V5, B6, hV7, hB8, hL⟩ := lv_grow hL (Obj.cells #[.int .u64 0, .int .u64 0, .int .u64 0, .int .u64 0] 24)
  rw [hV7]
  have hs9 : B2 + 1 = B6 := by rw [← hB8, ← hV3, World.size_alloc, hB4]
  try rw [hs9]
  clear hs9
  clear hV3 hB4 hV7 hB8
  go_loopw [5, 6] (fun v5 v6 wr => v6 = .int .i64 0 ∧ v5 = .bool false ∧ Lv w [(B6, Obj.cells #[.int .u64 0, .int .u64 0, .int .u64 0, .int .u64 0] 24 (0, 0)), (B2, Obj.cells #[.int .u64 0, .int .u64 0, .int .u64 0, .int .u64 0] 24 (0, 0))] wr) (fun _ _ _ => 0)
  case atStart => exact ⟨rfl, rfl, hL⟩
  case round =>
    clear hL
    obtain ⟨rfl, rfl, hL⟩ := hrel
    obtain ⟨q60, q61, q62, q63⟩ := lv_cells4 hL lm0
    obtain ⟨q64, q65, q66, q67⟩ := lv_cells4 hL lm1
    have z68 := lv_frozen hL lm1 0
    have z69 := lv_frozen hL lm1 1
    have z70 := lv_frozen hL lm1 2
    have z71 := lv_frozen hL lm1 3
    have d72 : B2 ≠ B6 := lv_dis hL (i := 0) (j := 1) (by omega) rfl rfl
    have d73 : B6 ≠ B2 := fun h => d72 h.symm
    go_wp2_with fail
    clear q60 q61 q62 q63 q64 q65 q66 q67 z68 z69 z70 z71 d72 d73
    obtain ⟨V74, hV75, hL⟩ : ∃ V, (World.setCell (World.setCell (World.setCell (World.setCell wr ⟨B2, 0, none⟩ (.int .u64 0)) ⟨B2, 1, none⟩ (.int .u64 0)) ⟨B2, 2, none⟩ (.int .u64 0)) ⟨B2, 3, none⟩ (.int .u64 0)) = V ∧ Lv w [(B6, Obj.cells #[.int .u64 0, .int .u64 0, .int .u64 0, .int .u64 0] 24 (0, 0)), (B2, Obj.cells #[.int .u64 0, .int .u64 0, .int .u64 0, .int .u64 0] 24 (0, 0))] V := ⟨_, rfl, lv_store4 [(B6, Obj.cells #[.int .u64 0, .int .u64 0, .int .u64 0, .int .u64 0] 24 (0, 0))] hL _ _ _ _⟩
    rw [hV75]
    clear hV75
    obtain ⟨k76, k77, k78, k79⟩ := lv_cells4 hL lm1
    refine bodyPost_ret (v := .tuple #[.agg #[.int .u64 0, .int .u64 0, .int .u64 0, .int .u64 0], .bool false]) (by simp [results, Try.results19, go_sem, k76, k77, k78, k79]) rfl ⟨rfl, hL.2.2.2⟩

theorem eqB_self (r : Nat → Nat) : eqB r r = true := by simp [eqB]
def o3_19_0 : Oper := { dst := some 127, op := Go.Op.load 24 (Go.Operand.tmp 9), type := 24, pos := "law.go:45", after := #[], guard := none }
def o3_19_1 : Oper := { dst := some 128, op := Go.Op.load 24 (Go.Operand.tmp 11), type := 24, pos := "law.go:45", after := #[], guard := none }
def o3_19_2 : Oper := { dst := some 129, op := Go.Op.binOp Go.BinOp.eql 24 (Go.Operand.tmp 127) (Go.Operand.tmp 128) 24, type := 4, pos := "law.go:45", after := #[{ on := 0, ground := Go.Ground.data }, { on := 1, ground := Go.Ground.data }], guard := none }
def o3_19_3 : Oper := { dst := some 130, op := Go.Op.move (Go.Operand.tmp 129), type := 4, pos := "law.go:45", after := #[{ on := 2, ground := Go.Ground.data }], guard := none }
def o3_19_4 : Oper := { dst := some 131, op := Go.Op.move (Go.Operand.tmp 10), type := 4, pos := "law.go:45", after := #[{ on := 3, ground := Go.Ground.guard }], guard := some (3, true) }
def o3_19_5 : Oper := { dst := some 132, op := Go.Op.move (Go.Operand.tmp 12), type := 4, pos := "law.go:45", after := #[{ on := 3, ground := Go.Ground.guard }], guard := some (3, true) }
def o3_19_6 : Oper := { dst := some 133, op := Go.Op.binOp Go.BinOp.eql 4 (Go.Operand.tmp 131) (Go.Operand.tmp 132) 4, type := 4, pos := "law.go:45", after := #[{ on := 4, ground := Go.Ground.data }, { on := 5, ground := Go.Ground.data }, { on := 3, ground := Go.Ground.guard }], guard := some (3, true) }
def o3_19_7 : Oper := { dst := some 134, op := Go.Op.pick (Go.Operand.tmp 130) (Go.Operand.tmp 133) (Go.Operand.const (Go.Value.bool false)), type := 4, pos := "law.go:45", after := #[{ on := 3, ground := Go.Ground.data }, { on := 6, ground := Go.Ground.data }], guard := none }
def o3_19_8 : Oper := { dst := some 135, op := Go.Op.move (Go.Operand.tmp 134), type := 4, pos := "law.go:45", after := #[{ on := 7, ground := Go.Ground.data }, { on := 3, ground := Go.Ground.chain }], guard := none }
def o3_19_9 : Oper := { dst := some 136, op := Go.Op.move (Go.Operand.tmp 17), type := 3, pos := "law.go:45", after := #[{ on := 8, ground := Go.Ground.guard }], guard := some (8, true) }
def o3_19_10 : Oper := { dst := some 137, op := Go.Op.move (Go.Operand.tmp 19), type := 3, pos := "law.go:45", after := #[{ on := 8, ground := Go.Ground.guard }], guard := some (8, true) }
def o3_19_11 : Oper := { dst := some 138, op := Go.Op.binOp Go.BinOp.eql 3 (Go.Operand.tmp 136) (Go.Operand.tmp 137) 3, type := 4, pos := "law.go:45", after := #[{ on := 9, ground := Go.Ground.data }, { on := 10, ground := Go.Ground.data }, { on := 8, ground := Go.Ground.guard }], guard := some (8, true) }
def o3_19_12 : Oper := { dst := some 139, op := Go.Op.pick (Go.Operand.tmp 135) (Go.Operand.tmp 138) (Go.Operand.const (Go.Value.bool false)), type := 4, pos := "law.go:45", after := #[{ on := 8, ground := Go.Ground.data }, { on := 11, ground := Go.Ground.data }], guard := none }
def o3_19_13 : Oper := { dst := some 140, op := Go.Op.move (Go.Operand.tmp 139), type := 4, pos := "law.go:45", after := #[{ on := 12, ground := Go.Ground.data }, { on := 8, ground := Go.Ground.chain }], guard := none }
def o3_19_14 : Oper := { dst := some 141, op := Go.Op.move (Go.Operand.tmp 18), type := 4, pos := "law.go:45", after := #[{ on := 13, ground := Go.Ground.guard }], guard := some (13, true) }
def o3_19_15 : Oper := { dst := some 142, op := Go.Op.move (Go.Operand.tmp 20), type := 4, pos := "law.go:45", after := #[{ on := 13, ground := Go.Ground.guard }], guard := some (13, true) }
def o3_19_16 : Oper := { dst := some 143, op := Go.Op.binOp Go.BinOp.eql 4 (Go.Operand.tmp 141) (Go.Operand.tmp 142) 4, type := 4, pos := "law.go:45", after := #[{ on := 14, ground := Go.Ground.data }, { on := 15, ground := Go.Ground.data }, { on := 13, ground := Go.Ground.guard }], guard := some (13, true) }
def o3_19_17 : Oper := { dst := some 144, op := Go.Op.pick (Go.Operand.tmp 140) (Go.Operand.tmp 143) (Go.Operand.const (Go.Value.bool false)), type := 4, pos := "law.go:45", after := #[{ on := 13, ground := Go.Ground.data }, { on := 16, ground := Go.Ground.data }], guard := none }
def o3_19_18 : Oper := { dst := some 145, op := Go.Op.move (Go.Operand.tmp 144), type := 4, pos := "law.go:45", after := #[{ on := 17, ground := Go.Ground.data }, { on := 13, ground := Go.Ground.chain }], guard := none }
def o3_19_19 : Oper := { dst := some 146, op := Go.Op.move (Go.Operand.tmp 2), type := 3, pos := "law.go:45", after := #[{ on := 18, ground := Go.Ground.guard }], guard := some (18, true) }
def o3_19_20 : Oper := { dst := some 147, op := Go.Op.call { callee := Go.Callee.value (Go.Operand.func 22), args := #[Go.Operand.tmp 146], argTypes := #[3] }, type := 24, pos := "law.go:45", after := #[{ on := 19, ground := Go.Ground.data }, { on := 18, ground := Go.Ground.chain }, { on := 18, ground := Go.Ground.guard }], guard := some (18, true) }
def o3_19_21 : Oper := { dst := some 148, op := Go.Op.move (Go.Operand.tmp 2), type := 3, pos := "law.go:45", after := #[{ on := 18, ground := Go.Ground.guard }], guard := some (18, true) }
def o3_19_22 : Oper := { dst := some 149, op := Go.Op.call { callee := Go.Callee.value (Go.Operand.func 23), args := #[Go.Operand.tmp 148], argTypes := #[3] }, type := 24, pos := "law.go:45", after := #[{ on := 21, ground := Go.Ground.data }, { on := 20, ground := Go.Ground.chain }, { on := 18, ground := Go.Ground.guard }], guard := some (18, true) }
def o3_19_23 : Oper := { dst := some 150, op := Go.Op.binOp Go.BinOp.eql 24 (Go.Operand.tmp 147) (Go.Operand.tmp 149) 24, type := 4, pos := "law.go:45", after := #[{ on := 20, ground := Go.Ground.data }, { on := 22, ground := Go.Ground.data }, { on := 18, ground := Go.Ground.guard }], guard := some (18, true) }
def o3_19_24 : Oper := { dst := some 151, op := Go.Op.pick (Go.Operand.tmp 145) (Go.Operand.tmp 150) (Go.Operand.const (Go.Value.bool false)), type := 4, pos := "law.go:45", after := #[{ on := 18, ground := Go.Ground.data }, { on := 23, ground := Go.Ground.data }], guard := none }
def o3_19_25 : Oper := { dst := some 152, op := Go.Op.move (Go.Operand.tmp 151), type := 4, pos := "law.go:45", after := #[{ on := 24, ground := Go.Ground.data }, { on := 22, ground := Go.Ground.chain }], guard := none }
def o3_19_26 : Oper := { dst := some 153, op := Go.Op.load 24 (Go.Operand.tmp 4), type := 24, pos := "law.go:45", after := #[{ on := 25, ground := Go.Ground.guard }], guard := some (25, true) }
def o3_19_27 : Oper := { dst := some 154, op := Go.Op.load 24 (Go.Operand.tmp 5), type := 24, pos := "law.go:45", after := #[{ on := 25, ground := Go.Ground.guard }], guard := some (25, true) }
def o3_19_28 : Oper := { dst := some 155, op := Go.Op.call { callee := Go.Callee.value (Go.Operand.func 24), args := #[Go.Operand.tmp 153, Go.Operand.tmp 154], argTypes := #[24, 24] }, type := 3, pos := "law.go:45", after := #[{ on := 26, ground := Go.Ground.data }, { on := 27, ground := Go.Ground.data }, { on := 25, ground := Go.Ground.chain }, { on := 25, ground := Go.Ground.guard }], guard := some (25, true) }
def o3_19_29 : Oper := { dst := some 156, op := Go.Op.load 24 (Go.Operand.tmp 4), type := 24, pos := "law.go:45", after := #[{ on := 25, ground := Go.Ground.guard }], guard := some (25, true) }
def o3_19_30 : Oper := { dst := some 157, op := Go.Op.load 24 (Go.Operand.tmp 5), type := 24, pos := "law.go:45", after := #[{ on := 25, ground := Go.Ground.guard }], guard := some (25, true) }
def o3_19_31 : Oper := { dst := some 158, op := Go.Op.call { callee := Go.Callee.value (Go.Operand.func 25), args := #[Go.Operand.tmp 156, Go.Operand.tmp 157], argTypes := #[24, 24] }, type := 3, pos := "law.go:45", after := #[{ on := 29, ground := Go.Ground.data }, { on := 30, ground := Go.Ground.data }, { on := 28, ground := Go.Ground.chain }, { on := 25, ground := Go.Ground.guard }], guard := some (25, true) }
def o3_19_32 : Oper := { dst := some 159, op := Go.Op.binOp Go.BinOp.eql 3 (Go.Operand.tmp 155) (Go.Operand.tmp 158) 3, type := 4, pos := "law.go:45", after := #[{ on := 28, ground := Go.Ground.data }, { on := 31, ground := Go.Ground.data }, { on := 25, ground := Go.Ground.guard }], guard := some (25, true) }
def o3_19_33 : Oper := { dst := some 160, op := Go.Op.pick (Go.Operand.tmp 152) (Go.Operand.tmp 159) (Go.Operand.const (Go.Value.bool false)), type := 4, pos := "law.go:45", after := #[{ on := 25, ground := Go.Ground.data }, { on := 32, ground := Go.Ground.data }], guard := none }
def o3_19_34 : Oper := { dst := some 161, op := Go.Op.move (Go.Operand.tmp 160), type := 4, pos := "law.go:45", after := #[{ on := 33, ground := Go.Ground.data }, { on := 31, ground := Go.Ground.chain }], guard := none }
def o3_19_35 : Oper := { dst := some 162, op := Go.Op.load 24 (Go.Operand.tmp 4), type := 24, pos := "law.go:45", after := #[{ on := 34, ground := Go.Ground.guard }], guard := some (34, true) }
def o3_19_36 : Oper := { dst := some 163, op := Go.Op.call { callee := Go.Callee.value (Go.Operand.func 26), args := #[Go.Operand.tmp 162], argTypes := #[24] }, type := 3, pos := "law.go:45", after := #[{ on := 35, ground := Go.Ground.data }, { on := 34, ground := Go.Ground.chain }, { on := 34, ground := Go.Ground.guard }], guard := some (34, true) }
def o3_19_37 : Oper := { dst := some 164, op := Go.Op.load 24 (Go.Operand.tmp 4), type := 24, pos := "law.go:45", after := #[{ on := 34, ground := Go.Ground.guard }], guard := some (34, true) }
def o3_19_38 : Oper := { dst := some 165, op := Go.Op.call { callee := Go.Callee.value (Go.Operand.func 27), args := #[Go.Operand.tmp 164], argTypes := #[24] }, type := 3, pos := "law.go:45", after := #[{ on := 37, ground := Go.Ground.data }, { on := 36, ground := Go.Ground.chain }, { on := 34, ground := Go.Ground.guard }], guard := some (34, true) }
def o3_19_39 : Oper := { dst := some 166, op := Go.Op.binOp Go.BinOp.eql 3 (Go.Operand.tmp 163) (Go.Operand.tmp 165) 3, type := 4, pos := "law.go:45", after := #[{ on := 36, ground := Go.Ground.data }, { on := 38, ground := Go.Ground.data }, { on := 34, ground := Go.Ground.guard }], guard := some (34, true) }
def o3_19_40 : Oper := { dst := some 167, op := Go.Op.pick (Go.Operand.tmp 161) (Go.Operand.tmp 166) (Go.Operand.const (Go.Value.bool false)), type := 4, pos := "law.go:45", after := #[{ on := 34, ground := Go.Ground.data }, { on := 39, ground := Go.Ground.data }], guard := none }
def o3_19_41 : Oper := { dst := some 168, op := Go.Op.move (Go.Operand.tmp 167), type := 4, pos := "law.go:45", after := #[{ on := 40, ground := Go.Ground.data }, { on := 38, ground := Go.Ground.chain }], guard := none }
def o3_19_42 : Oper := { dst := some 169, op := Go.Op.call { callee := Go.Callee.value (Go.Operand.func 9), args := #[], argTypes := #[] }, type := 4, pos := "law.go:45", after := #[{ on := 41, ground := Go.Ground.chain }, { on := 41, ground := Go.Ground.guard }], guard := some (41, true) }
def o3_19_43 : Oper := { dst := some 170, op := Go.Op.pick (Go.Operand.tmp 168) (Go.Operand.tmp 169) (Go.Operand.const (Go.Value.bool false)), type := 4, pos := "law.go:45", after := #[{ on := 41, ground := Go.Ground.data }, { on := 42, ground := Go.Ground.data }], guard := none }
def o3_19_44 : Oper := { dst := some 8, op := Go.Op.assign (Go.Operand.tmp 170), type := 4, pos := "law.go:45", after := #[{ on := 43, ground := Go.Ground.data }, { on := 42, ground := Go.Ground.chain }, { on := 0, ground := Go.Ground.phase }, { on := 1, ground := Go.Ground.phase }, { on := 2, ground := Go.Ground.phase }, { on := 3, ground := Go.Ground.phase }, { on := 4, ground := Go.Ground.phase }, { on := 5, ground := Go.Ground.phase }, { on := 6, ground := Go.Ground.phase }, { on := 7, ground := Go.Ground.phase }, { on := 8, ground := Go.Ground.phase }, { on := 9, ground := Go.Ground.phase }, { on := 10, ground := Go.Ground.phase }, { on := 11, ground := Go.Ground.phase }, { on := 12, ground := Go.Ground.phase }, { on := 13, ground := Go.Ground.phase }, { on := 14, ground := Go.Ground.phase }, { on := 15, ground := Go.Ground.phase }, { on := 16, ground := Go.Ground.phase }, { on := 17, ground := Go.Ground.phase }, { on := 18, ground := Go.Ground.phase }, { on := 19, ground := Go.Ground.phase }, { on := 20, ground := Go.Ground.phase }, { on := 21, ground := Go.Ground.phase }, { on := 22, ground := Go.Ground.phase }, { on := 23, ground := Go.Ground.phase }, { on := 24, ground := Go.Ground.phase }, { on := 25, ground := Go.Ground.phase }, { on := 26, ground := Go.Ground.phase }, { on := 27, ground := Go.Ground.phase }, { on := 28, ground := Go.Ground.phase }, { on := 29, ground := Go.Ground.phase }, { on := 30, ground := Go.Ground.phase }, { on := 31, ground := Go.Ground.phase }, { on := 32, ground := Go.Ground.phase }, { on := 33, ground := Go.Ground.phase }, { on := 34, ground := Go.Ground.phase }, { on := 35, ground := Go.Ground.phase }, { on := 36, ground := Go.Ground.phase }, { on := 37, ground := Go.Ground.phase }, { on := 38, ground := Go.Ground.phase }, { on := 39, ground := Go.Ground.phase }, { on := 40, ground := Go.Ground.phase }, { on := 41, ground := Go.Ground.phase }, { on := 42, ground := Go.Ground.phase }, { on := 43, ground := Go.Ground.phase }], guard := none }
attribute [local go_sem] o3_19_0 o3_19_1 o3_19_2 o3_19_3 o3_19_4 o3_19_5 o3_19_6 o3_19_7 o3_19_8 o3_19_9 o3_19_10 o3_19_11 o3_19_12 o3_19_13 o3_19_14 o3_19_15 o3_19_16 o3_19_17 o3_19_18 o3_19_19 o3_19_20 o3_19_21 o3_19_22 o3_19_23 o3_19_24 o3_19_25 o3_19_26 o3_19_27 o3_19_28 o3_19_29 o3_19_30 o3_19_31 o3_19_32 o3_19_33 o3_19_34 o3_19_35 o3_19_36 o3_19_37 o3_19_38 o3_19_39 o3_19_40 o3_19_41 o3_19_42 o3_19_43 o3_19_44
set_option maxRecDepth 100000 in
set_option maxHeartbeats 8000000 in
theorem widetells_nil (a b r1 r2 r3 r4 r6 : Nat → Nat) (o1 o2 o3 o4 o5 : Bool) (i1 c1 c2 z : Int) (ha : Wds a) (hb : Wds b) (z1 : -9223372036854775808 ≤ z) (z2 : z ≤ 9223372036854775807) (p : Option Addr) (cap : Nat) (h1 : addR a b = r1) (g1 : addO a b = o1) (h2 : subR a b = r2) (g2 : subO a b = o2) (h3 : mulR a b = r3) (g3 : mulO a b = o3) (h4 : negR a = r4) (g4 : negO a = o4) (h5 : intI a = i1) (g5 : intB a = o5) (h6 : ofR z = r6) (h7 : cmpR a b = c1) (h8 : signI a = c2)  (w : World) :
    Calls Try.prog 3 #[.agg #[.int .u64 (a 0), .int .u64 (a 1), .int .u64 (a 2), .int .u64 (a 3)], .agg #[.int .u64 (b 0), .int .u64 (b 1), .int .u64 (b 2), .int .u64 (b 3)], .int .i64 z, .slice p 0 cap] w fun ee w' => ee = .returned (.bool true) ∧ Below w.heap.size w w' := by
  have Er1 := fun w => eq_c (eqB_self r1) w
  have Er2 := fun w => eq_c (eqB_self r2) w
  have Er3 := fun w => eq_c (eqB_self r3) w
  have Er4 := fun w => eq_c (eqB_self r4) w
  have Er6 := fun w => eq_c (eqB_self r6) w
  have EZ : ∀ w, (Op.equalIn 10000 24 (.agg #[.int .u64 0, .int .u64 0, .int .u64 0, .int .u64 0]) (.agg #[.int .u64 0, .int .u64 0, .int .u64 0, .int .u64 0])).run Try.prog w = .ok true w := fun w => eq_c (eqB_self Zr) w
  have Xh1 := Lib.hid h1
  have Xg1 := Lib.hid g1
  have Xh2 := Lib.hid h2
  have Xg2 := Lib.hid g2
  have Xh3 := Lib.hid h3
  have Xg3 := Lib.hid g3
  have Xh4 := Lib.hid h4
  have Xg4 := Lib.hid g4
  have Xh5 := Lib.hid h5
  have Xg5 := Lib.hid g5
  have Xh6 := Lib.hid h6
  have Xh7 := Lib.hid h7
  have Xh8 := Lib.hid h8
  clear h1 g1 h2 g2 h3 g3 h4 g4 h5 g5 h6 h7 h8
  have hL := lv_nil w
  go_enter Try.func3, Try.ntmps3
  go_wp2_with fail
  obtain ⟨V1, B2, hV3, hB4, hL⟩ := lv_grow hL (Obj.cells #[.int .u64 (a 0), .int .u64 (a 1), .int .u64 (a 2), .int .u64 (a 3)] 24)
  rw [hV3]
  try rw [hB4]
  obtain ⟨V5, B6, hV7, hB8, hL⟩ := lv_grow hL (Obj.cells #[.int .u64 (b 0), .int .u64 (b 1), .int .u64 (b 2), .int .u64 (b 3)] 24)
  rw [hV7]
  have hs9 : B2 + 1 = B6 := by rw [← hB8, ← hV3, World.size_alloc, hB4]
  try rw [hs9]
  clear hs9
  clear hV3 hB4 hV7 hB8
  refine (add_c ha hb Xh1.out Xg1.out _).mono ?_
  rintro e W10 ⟨rfl, hB⟩
  replace hL := lv_below hL hB
  clear hB
  obtain ⟨q11, q12, q13, q14⟩ := lv_cells4 hL lm1
  obtain ⟨q15, q16, q17, q18⟩ := lv_cells4 hL lm0
  have l19 : B2 < (W10).heap.size := lv_lt hL lm1
  have l20 : ¬ B2 = (W10).heap.size := Nat.ne_of_lt l19
  have l21 : ¬ (W10).heap.size = B2 := fun h => l20 h.symm
  have l22 : B6 < (W10).heap.size := lv_lt hL lm0
  have l23 : ¬ B6 = (W10).heap.size := Nat.ne_of_lt l22
  have l24 : ¬ (W10).heap.size = B6 := fun h => l23 h.symm
  go_wp2_with fail
  clear q11 q12 q13 q14 q15 q16 q17 q18 l19 l20 l21 l22 l23 l24
  obtain ⟨V25, B26, hV27, hB28, hL⟩ := lv_grow hL (Obj.cells #[.int .u64 (r1 0), .int .u64 (r1 1), .int .u64 (r1 2), .int .u64 (r1 3)] 24)
  rw [hV27]
  try rw [hB28]
  clear hV27 hB28
  refine (refaddn ha hb Xh1.out Xg1.out _).mono ?_
  rintro e W29 ⟨rfl, hB⟩
  replace hL := lv_below hL hB
  clear hB
  obtain ⟨q30, q31, q32, q33⟩ := lv_cells4 hL lm2
  obtain ⟨q34, q35, q36, q37⟩ := lv_cells4 hL lm1
  have l38 : B2 < (W29).heap.size := lv_lt hL lm2
  have l39 : ¬ B2 = (W29).heap.size := Nat.ne_of_lt l38
  have l40 : ¬ (W29).heap.size = B2 := fun h => l39 h.symm
  have l41 : B6 < (W29).heap.size := lv_lt hL lm1
  have l42 : ¬ B6 = (W29).heap.size := Nat.ne_of_lt l41
  have l43 : ¬ (W29).heap.size = B6 := fun h => l42 h.symm
  go_wp2_with fail
  clear q30 q31 q32 q33 q34 q35 q36 q37 l38 l39 l40 l41 l42 l43
  obtain ⟨V44, B45, hV46, hB47, hL⟩ := lv_grow hL (Obj.cells #[.int .u64 (r1 0), .int .u64 (r1 1), .int .u64 (r1 2), .int .u64 (r1 3)] 24)
  rw [hV46]
  try rw [hB47]
  clear hV46 hB47
  refine (sub_c ha hb Xh2.out Xg2.out _).mono ?_
  rintro e W48 ⟨rfl, hB⟩
  replace hL := lv_below hL hB
  clear hB
  obtain ⟨q49, q50, q51, q52⟩ := lv_cells4 hL lm3
  obtain ⟨q53, q54, q55, q56⟩ := lv_cells4 hL lm2
  have l57 : B2 < (W48).heap.size := lv_lt hL lm3
  have l58 : ¬ B2 = (W48).heap.size := Nat.ne_of_lt l57
  have l59 : ¬ (W48).heap.size = B2 := fun h => l58 h.symm
  have l60 : B6 < (W48).heap.size := lv_lt hL lm2
  have l61 : ¬ B6 = (W48).heap.size := Nat.ne_of_lt l60
  have l62 : ¬ (W48).heap.size = B6 := fun h => l61 h.symm
  go_wp2_with fail
  clear q49 q50 q51 q52 q53 q54 q55 q56 l57 l58 l59 l60 l61 l62
  obtain ⟨V63, B64, hV65, hB66, hL⟩ := lv_grow hL (Obj.cells #[.int .u64 (r2 0), .int .u64 (r2 1), .int .u64 (r2 2), .int .u64 (r2 3)] 24)
  rw [hV65]
  try rw [hB66]
  clear hV65 hB66
  refine (refsubn ha hb Xh2.out Xg2.out _).mono ?_
  rintro e W67 ⟨rfl, hB⟩
  replace hL := lv_below hL hB
  clear hB
  obtain ⟨q68, q69, q70, q71⟩ := lv_cells4 hL lm2
  obtain ⟨q72, q73, q74, q75⟩ := lv_cells4 hL lm1
  obtain ⟨q76, q77, q78, q79⟩ := lv_cells4 hL lm0
  obtain ⟨q80, q81, q82, q83⟩ := lv_cells4 hL lm4
  obtain ⟨q84, q85, q86, q87⟩ := lv_cells4 hL lm3
  have l88 : B26 < (W67).heap.size := lv_lt hL lm2
  have l89 : ¬ B26 = (W67).heap.size := Nat.ne_of_lt l88
  have l90 : ¬ (W67).heap.size = B26 := fun h => l89 h.symm
  have l91 : B45 < (W67).heap.size := lv_lt hL lm1
  have l92 : ¬ B45 = (W67).heap.size := Nat.ne_of_lt l91
  have l93 : ¬ (W67).heap.size = B45 := fun h => l92 h.symm
  have l94 : B64 < (W67).heap.size := lv_lt hL lm0
  have l95 : ¬ B64 = (W67).heap.size := Nat.ne_of_lt l94
  have l96 : ¬ (W67).heap.size = B64 := fun h => l95 h.symm
  have l97 : B2 < (W67).heap.size := lv_lt hL lm4
  have l98 : ¬ B2 = (W67).heap.size := Nat.ne_of_lt l97
  have l99 : ¬ (W67).heap.size = B2 := fun h => l98 h.symm
  have l100 : B6 < (W67).heap.size := lv_lt hL lm3
  have l101 : ¬ B6 = (W67).heap.size := Nat.ne_of_lt l100
  have l102 : ¬ (W67).heap.size = B6 := fun h => l101 h.symm
  go_wp2_with fail
  clear q68 q69 q70 q71 q72 q73 q74 q75 q76 q77 q78 q79 q80 q81 q82 q83 q84 q85 q86 q87 l88 l89 l90 l91 l92 l93 l94 l95 l96 l97 l98 l99 l100 l101 l102
  obtain ⟨V103, B104, hV105, hB106, hL⟩ := lv_grow hL (Obj.cells #[.int .u64 (r2 0), .int .u64 (r2 1), .int .u64 (r2 2), .int .u64 (r2 3)] 24)
  rw [hV105]
  try rw [hB106]
  clear hV105 hB106
  refine (mul_c ha hb Xh3.out Xg3.out _).mono ?_
  rintro e W107 ⟨rfl, hB⟩
  replace hL := lv_below hL hB
  clear hB
  obtain ⟨q108, q109, q110, q111⟩ := lv_cells4 hL lm5
  obtain ⟨q112, q113, q114, q115⟩ := lv_cells4 hL lm4
  obtain ⟨q116, q117, q118, q119⟩ := lv_cells4 hL lm3
  have z120 := lv_frozen hL lm3 0
  have z121 := lv_frozen hL lm3 1
  have z122 := lv_frozen hL lm3 2
  have z123 := lv_frozen hL lm3 3
  have d124 : B2 ≠ B26 := lv_dis hL (i := 3) (j := 5) (by omega) rfl rfl
  have d125 : B26 ≠ B2 := fun h => d124 h.symm
  have d126 : B6 ≠ B26 := lv_dis hL (i := 3) (j := 4) (by omega) rfl rfl
  have d127 : B26 ≠ B6 := fun h => d126 h.symm
  go_wp2_with fail
  clear q108 q109 q110 q111 q112 q113 q114 q115 q116 q117 q118 q119 z120 z121 z122 z123 d124 d125 d126 d127
  obtain ⟨V128, hV129, hL⟩ : ∃ V, (World.setCell (World.setCell (World.setCell (World.setCell W107 ⟨B26, 0, none⟩ (.int .u64 (r3 0))) ⟨B26, 1, none⟩ (.int .u64 (r3 1))) ⟨B26, 2, none⟩ (.int .u64 (r3 2))) ⟨B26, 3, none⟩ (.int .u64 (r3 3))) = V ∧ Lv w [(B104, Obj.cells #[.int .u64 (r2 0), .int .u64 (r2 1), .int .u64 (r2 2), .int .u64 (r2 3)] 24 (0, 0)), (B64, Obj.cells #[.int .u64 (r2 0), .int .u64 (r2 1), .int .u64 (r2 2), .int .u64 (r2 3)] 24 (0, 0)), (B45, Obj.cells #[.int .u64 (r1 0), .int .u64 (r1 1), .int .u64 (r1 2), .int .u64 (r1 3)] 24 (0, 0)), (B26, Obj.cells #[.int .u64 (r3 0), .int .u64 (r3 1), .int .u64 (r3 2), .int .u64 (r3 3)] 24 (0, 0)), (B6, Obj.cells #[.int .u64 (b 0), .int .u64 (b 1), .int .u64 (b 2), .int .u64 (b 3)] 24 (0, 0)), (B2, Obj.cells #[.int .u64 (a 0), .int .u64 (a 1), .int .u64 (a 2), .int .u64 (a 3)] 24 (0, 0))] V := ⟨_, rfl, lv_store4 [(B104, Obj.cells #[.int .u64 (r2 0), .int .u64 (r2 1), .int .u64 (r2 2), .int .u64 (r2 3)] 24 (0, 0)), (B64, Obj.cells #[.int .u64 (r2 0), .int .u64 (r2 1), .int .u64 (r2 2), .int .u64 (r2 3)] 24 (0, 0)), (B45, Obj.cells #[.int .u64 (r1 0), .int .u64 (r1 1), .int .u64 (r1 2), .int .u64 (r1 3)] 24 (0, 0))] hL _ _ _ _⟩
  rw [hV129]
  clear hV129
  refine (refmuln ha hb Xh3.out Xg3.out _).mono ?_
  rintro e W130 ⟨rfl, hB⟩
  replace hL := lv_below hL hB
  clear hB
  obtain ⟨q131, q132, q133, q134⟩ := lv_cells4 hL lm5
  obtain ⟨q135, q136, q137, q138⟩ := lv_cells4 hL lm2
  have z139 := lv_frozen hL lm2 0
  have z140 := lv_frozen hL lm2 1
  have z141 := lv_frozen hL lm2 2
  have z142 := lv_frozen hL lm2 3
  have d143 : B2 ≠ B45 := lv_dis hL (i := 2) (j := 5) (by omega) rfl rfl
  have d144 : B45 ≠ B2 := fun h => d143 h.symm
  go_wp2_with fail
  clear q131 q132 q133 q134 q135 q136 q137 q138 z139 z140 z141 z142 d143 d144
  obtain ⟨V145, hV146, hL⟩ : ∃ V, (World.setCell (World.setCell (World.setCell (World.setCell W130 ⟨B45, 0, none⟩ (.int .u64 (r3 0))) ⟨B45, 1, none⟩ (.int .u64 (r3 1))) ⟨B45, 2, none⟩ (.int .u64 (r3 2))) ⟨B45, 3, none⟩ (.int .u64 (r3 3))) = V ∧ Lv w [(B104, Obj.cells #[.int .u64 (r2 0), .int .u64 (r2 1), .int .u64 (r2 2), .int .u64 (r2 3)] 24 (0, 0)), (B64, Obj.cells #[.int .u64 (r2 0), .int .u64 (r2 1), .int .u64 (r2 2), .int .u64 (r2 3)] 24 (0, 0)), (B45, Obj.cells #[.int .u64 (r3 0), .int .u64 (r3 1), .int .u64 (r3 2), .int .u64 (r3 3)] 24 (0, 0)), (B26, Obj.cells #[.int .u64 (r3 0), .int .u64 (r3 1), .int .u64 (r3 2), .int .u64 (r3 3)] 24 (0, 0)), (B6, Obj.cells #[.int .u64 (b 0), .int .u64 (b 1), .int .u64 (b 2), .int .u64 (b 3)] 24 (0, 0)), (B2, Obj.cells #[.int .u64 (a 0), .int .u64 (a 1), .int .u64 (a 2), .int .u64 (a 3)] 24 (0, 0))] V := ⟨_, rfl, lv_store4 [(B104, Obj.cells #[.int .u64 (r2 0), .int .u64 (r2 1), .int .u64 (r2 2), .int .u64 (r2 3)] 24 (0, 0)), (B64, Obj.cells #[.int .u64 (r2 0), .int .u64 (r2 1), .int .u64 (r2 2), .int .u64 (r2 3)] 24 (0, 0))] hL _ _ _ _⟩
  rw [hV146]
  clear hV146
  refine (neg_c ha Xh4.out Xg4.out _).mono ?_
  rintro e W147 ⟨rfl, hB⟩
  replace hL := lv_below hL hB
  clear hB
  obtain ⟨q148, q149, q150, q151⟩ := lv_cells4 hL lm5
  obtain ⟨q152, q153, q154, q155⟩ := lv_cells4 hL lm1
  have z156 := lv_frozen hL lm1 0
  have z157 := lv_frozen hL lm1 1
  have z158 := lv_frozen hL lm1 2
  have z159 := lv_frozen hL lm1 3
  have d160 : B2 ≠ B64 := lv_dis hL (i := 1) (j := 5) (by omega) rfl rfl
  have d161 : B64 ≠ B2 := fun h => d160 h.symm
  go_wp2_with fail
  clear q148 q149 q150 q151 q152 q153 q154 q155 z156 z157 z158 z159 d160 d161
  obtain ⟨V162, hV163, hL⟩ : ∃ V, (World.setCell (World.setCell (World.setCell (World.setCell W147 ⟨B64, 0, none⟩ (.int .u64 (r4 0))) ⟨B64, 1, none⟩ (.int .u64 (r4 1))) ⟨B64, 2, none⟩ (.int .u64 (r4 2))) ⟨B64, 3, none⟩ (.int .u64 (r4 3))) = V ∧ Lv w [(B104, Obj.cells #[.int .u64 (r2 0), .int .u64 (r2 1), .int .u64 (r2 2), .int .u64 (r2 3)] 24 (0, 0)), (B64, Obj.cells #[.int .u64 (r4 0), .int .u64 (r4 1), .int .u64 (r4 2), .int .u64 (r4 3)] 24 (0, 0)), (B45, Obj.cells #[.int .u64 (r3 0), .int .u64 (r3 1), .int .u64 (r3 2), .int .u64 (r3 3)] 24 (0, 0)), (B26, Obj.cells #[.int .u64 (r3 0), .int .u64 (r3 1), .int .u64 (r3 2), .int .u64 (r3 3)] 24 (0, 0)), (B6, Obj.cells #[.int .u64 (b 0), .int .u64 (b 1), .int .u64 (b 2), .int .u64 (b 3)] 24 (0, 0)), (B2, Obj.cells #[.int .u64 (a 0), .int .u64 (a 1), .int .u64 (a 2), .int .u64 (a 3)] 24 (0, 0))] V := ⟨_, rfl, lv_store4 [(B104, Obj.cells #[.int .u64 (r2 0), .int .u64 (r2 1), .int .u64 (r2 2), .int .u64 (r2 3)] 24 (0, 0))] hL _ _ _ _⟩
  rw [hV163]
  clear hV163
  refine (refneg_n ha Xh4.out Xg4.out _).mono ?_
  rintro e W164 ⟨rfl, hB⟩
  replace hL := lv_below hL hB
  clear hB
  obtain ⟨q165, q166, q167, q168⟩ := lv_cells4 hL lm3
  obtain ⟨q169, q170, q171, q172⟩ := lv_cells4 hL lm2
  obtain ⟨q173, q174, q175, q176⟩ := lv_cells4 hL lm1
  obtain ⟨q177, q178, q179, q180⟩ := lv_cells4 hL lm0
  have z181 := lv_frozen hL lm0 0
  have z182 := lv_frozen hL lm0 1
  have z183 := lv_frozen hL lm0 2
  have z184 := lv_frozen hL lm0 3
  have d185 : B26 ≠ B104 := lv_dis hL (i := 0) (j := 3) (by omega) rfl rfl
  have d186 : B104 ≠ B26 := fun h => d185 h.symm
  have d187 : B45 ≠ B104 := lv_dis hL (i := 0) (j := 2) (by omega) rfl rfl
  have d188 : B104 ≠ B45 := fun h => d187 h.symm
  have d189 : B64 ≠ B104 := lv_dis hL (i := 0) (j := 1) (by omega) rfl rfl
  have d190 : B104 ≠ B64 := fun h => d189 h.symm
  go_wp2_with fail
  clear q165 q166 q167 q168 q169 q170 q171 q172 q173 q174 q175 q176 q177 q178 q179 q180 z181 z182 z183 z184 d185 d186 d187 d188 d189 d190
  obtain ⟨V191, hV192, hL⟩ : ∃ V, (World.setCell (World.setCell (World.setCell (World.setCell W164 ⟨B104, 0, none⟩ (.int .u64 (r4 0))) ⟨B104, 1, none⟩ (.int .u64 (r4 1))) ⟨B104, 2, none⟩ (.int .u64 (r4 2))) ⟨B104, 3, none⟩ (.int .u64 (r4 3))) = V ∧ Lv w [(B104, Obj.cells #[.int .u64 (r4 0), .int .u64 (r4 1), .int .u64 (r4 2), .int .u64 (r4 3)] 24 (0, 0)), (B64, Obj.cells #[.int .u64 (r4 0), .int .u64 (r4 1), .int .u64 (r4 2), .int .u64 (r4 3)] 24 (0, 0)), (B45, Obj.cells #[.int .u64 (r3 0), .int .u64 (r3 1), .int .u64 (r3 2), .int .u64 (r3 3)] 24 (0, 0)), (B26, Obj.cells #[.int .u64 (r3 0), .int .u64 (r3 1), .int .u64 (r3 2), .int .u64 (r3 3)] 24 (0, 0)), (B6, Obj.cells #[.int .u64 (b 0), .int .u64 (b 1), .int .u64 (b 2), .int .u64 (b 3)] 24 (0, 0)), (B2, Obj.cells #[.int .u64 (a 0), .int .u64 (a 1), .int .u64 (a 2), .int .u64 (a 3)] 24 (0, 0))] V := ⟨_, rfl, lv_store4 [] hL _ _ _ _⟩
  rw [hV192]
  clear hV192
  refine (sum_nil p cap _).mono ?_
  rintro e W193 ⟨rfl, hB⟩
  replace hL := lv_below hL hB
  clear hB
  obtain ⟨q194, q195, q196, q197⟩ := lv_cells4 hL lm3
  have z198 := lv_frozen hL lm3 0
  have z199 := lv_frozen hL lm3 1
  have z200 := lv_frozen hL lm3 2
  have z201 := lv_frozen hL lm3 3
  go_wp2_with fail
  clear q194 q195 q196 q197 z198 z199 z200 z201
  obtain ⟨V202, hV203, hL⟩ : ∃ V, (World.setCell (World.setCell (World.setCell (World.setCell W193 ⟨B26, 0, none⟩ (.int .u64 0)) ⟨B26, 1, none⟩ (.int .u64 0)) ⟨B26, 2, none⟩ (.int .u64 0)) ⟨B26, 3, none⟩ (.int .u64 0)) = V ∧ Lv w [(B104, Obj.cells #[.int .u64 (r4 0), .int .u64 (r4 1), .int .u64 (r4 2), .int .u64 (r4 3)] 24 (0, 0)), (B64, Obj.cells #[.int .u64 (r4 0), .int .u64 (r4 1), .int .u64 (r4 2), .int .u64 (r4 3)] 24 (0, 0)), (B45, Obj.cells #[.int .u64 (r3 0), .int .u64 (r3 1), .int .u64 (r3 2), .int .u64 (r3 3)] 24 (0, 0)), (B26, Obj.cells #[.int .u64 0, .int .u64 0, .int .u64 0, .int .u64 0] 24 (0, 0)), (B6, Obj.cells #[.int .u64 (b 0), .int .u64 (b 1), .int .u64 (b 2), .int .u64 (b 3)] 24 (0, 0)), (B2, Obj.cells #[.int .u64 (a 0), .int .u64 (a 1), .int .u64 (a 2), .int .u64 (a 3)] 24 (0, 0))] V := ⟨_, rfl, lv_store4 [(B104, Obj.cells #[.int .u64 (r4 0), .int .u64 (r4 1), .int .u64 (r4 2), .int .u64 (r4 3)] 24 (0, 0)), (B64, Obj.cells #[.int .u64 (r4 0), .int .u64 (r4 1), .int .u64 (r4 2), .int .u64 (r4 3)] 24 (0, 0)), (B45, Obj.cells #[.int .u64 (r3 0), .int .u64 (r3 1), .int .u64 (r3 2), .int .u64 (r3 3)] 24 (0, 0))] hL _ _ _ _⟩
  rw [hV203]
  clear hV203
  refine (refsum_nil p cap _).mono ?_
  rintro e W204 ⟨rfl, hB⟩
  replace hL := lv_below hL hB
  clear hB
  obtain ⟨q205, q206, q207, q208⟩ := lv_cells4 hL lm5
  obtain ⟨q209, q210, q211, q212⟩ := lv_cells4 hL lm2
  have z213 := lv_frozen hL lm2 0
  have z214 := lv_frozen hL lm2 1
  have z215 := lv_frozen hL lm2 2
  have z216 := lv_frozen hL lm2 3
  have d217 : B2 ≠ B45 := lv_dis hL (i := 2) (j := 5) (by omega) rfl rfl
  have d218 : B45 ≠ B2 := fun h => d217 h.symm
  go_wp2_with fail
  clear q205 q206 q207 q208 q209 q210 q211 q212 z213 z214 z215 z216 d217 d218
  obtain ⟨V219, hV220, hL⟩ : ∃ V, (World.setCell (World.setCell (World.setCell (World.setCell W204 ⟨B45, 0, none⟩ (.int .u64 0)) ⟨B45, 1, none⟩ (.int .u64 0)) ⟨B45, 2, none⟩ (.int .u64 0)) ⟨B45, 3, none⟩ (.int .u64 0)) = V ∧ Lv w [(B104, Obj.cells #[.int .u64 (r4 0), .int .u64 (r4 1), .int .u64 (r4 2), .int .u64 (r4 3)] 24 (0, 0)), (B64, Obj.cells #[.int .u64 (r4 0), .int .u64 (r4 1), .int .u64 (r4 2), .int .u64 (r4 3)] 24 (0, 0)), (B45, Obj.cells #[.int .u64 0, .int .u64 0, .int .u64 0, .int .u64 0] 24 (0, 0)), (B26, Obj.cells #[.int .u64 0, .int .u64 0, .int .u64 0, .int .u64 0] 24 (0, 0)), (B6, Obj.cells #[.int .u64 (b 0), .int .u64 (b 1), .int .u64 (b 2), .int .u64 (b 3)] 24 (0, 0)), (B2, Obj.cells #[.int .u64 (a 0), .int .u64 (a 1), .int .u64 (a 2), .int .u64 (a 3)] 24 (0, 0))] V := ⟨_, rfl, lv_store4 [(B104, Obj.cells #[.int .u64 (r4 0), .int .u64 (r4 1), .int .u64 (r4 2), .int .u64 (r4 3)] 24 (0, 0)), (B64, Obj.cells #[.int .u64 (r4 0), .int .u64 (r4 1), .int .u64 (r4 2), .int .u64 (r4 3)] 24 (0, 0))] hL _ _ _ _⟩
  rw [hV220]
  clear hV220
  refine (int_c ha Xh5.out Xg5.out _).mono ?_
  rintro e W221 ⟨rfl, hB⟩
  replace hL := lv_below hL hB
  clear hB
  obtain ⟨q222, q223, q224, q225⟩ := lv_cells4 hL lm5
  go_wp2_with fail
  clear q222 q223 q224 q225
  refine (refintn ha Xh5.out Xg5.out _).mono ?_
  rintro e W226 ⟨rfl, hB⟩
  replace hL := lv_below hL hB
  clear hB
  go_wp2_with fail
  refine wp_region_held_drew (S := fun W' => Lv w [(B104, Obj.cells #[.int .u64 (r4 0), .int .u64 (r4 1), .int .u64 (r4 2), .int .u64 (r4 3)] 24 (0, 0)), (B64, Obj.cells #[.int .u64 (r4 0), .int .u64 (r4 1), .int .u64 (r4 2), .int .u64 (r4 3)] 24 (0, 0)), (B45, Obj.cells #[.int .u64 0, .int .u64 0, .int .u64 0, .int .u64 0] 24 (0, 0)), (B26, Obj.cells #[.int .u64 0, .int .u64 0, .int .u64 0, .int .u64 0] 24 (0, 0)), (B6, Obj.cells #[.int .u64 (b 0), .int .u64 (b 1), .int .u64 (b 2), .int .u64 (b 3)] 24 (0, 0)), (B2, Obj.cells #[.int .u64 (a 0), .int .u64 (a 1), .int .u64 (a 2), .int .u64 (a 3)] 24 (0, 0))] W') (by kernel_rfl) (lv_drew (lv_sub (sk (sk (sk (sk (sk (sk sn)))))) hL)) (fun hHeld => ?_)
  replace hL := lv_drew hL
  obtain ⟨D227, hD228⟩ : ∃ W0, World.drew W226 = W0 := ⟨_, rfl⟩
  rw [hD228] at hHeld hL ⊢
  clear hD228
  refine tk 0 o3_19_0 (v := ?_) ?_ ?_
  rotate_left
  · intro w hSw
    obtain ⟨k0, k1, k2, k3⟩ := lv_cells4 hSw lm3
    delta o3_19_0
    go_simp
    try with_reducible rfl
  try simp only [Act.put, o3_19_0, List.setIfInBounds_toArray, List.set_cons_zero, List.set_cons_succ]
  refine tk 1 o3_19_1 (v := ?_) ?_ ?_
  rotate_left
  · intro w hSw
    obtain ⟨k0, k1, k2, k3⟩ := lv_cells4 hSw lm2
    delta o3_19_1
    go_simp
    try with_reducible rfl
  try simp only [Act.put, o3_19_1, List.setIfInBounds_toArray, List.set_cons_zero, List.set_cons_succ]
  refine tk 2 o3_19_2 (v := ?_) ?_ ?_
  rotate_left
  · intro w hSw
    delta o3_19_2
    go_simp
    try with_reducible rfl
  try simp only [Act.put, o3_19_2, List.setIfInBounds_toArray, List.set_cons_zero, List.set_cons_succ]
  refine tk 3 o3_19_3 (v := ?_) ?_ ?_
  rotate_left
  · intro w hSw
    delta o3_19_3
    go_simp
    try with_reducible rfl
  try simp only [Act.put, o3_19_3, List.setIfInBounds_toArray, List.set_cons_zero, List.set_cons_succ]
  refine tk 4 o3_19_4 (v := ?_) ?_ ?_
  rotate_left
  · intro w hSw
    delta o3_19_4
    go_simp
    try with_reducible rfl
  try simp only [Act.put, o3_19_4, List.setIfInBounds_toArray, List.set_cons_zero, List.set_cons_succ]
  refine tk 5 o3_19_5 (v := ?_) ?_ ?_
  rotate_left
  · intro w hSw
    delta o3_19_5
    go_simp
    try with_reducible rfl
  try simp only [Act.put, o3_19_5, List.setIfInBounds_toArray, List.set_cons_zero, List.set_cons_succ]
  refine tk 6 o3_19_6 (v := ?_) ?_ ?_
  rotate_left
  · intro w hSw
    delta o3_19_6
    go_simp
    try with_reducible rfl
  try simp only [Act.put, o3_19_6, List.setIfInBounds_toArray, List.set_cons_zero, List.set_cons_succ]
  refine tk 7 o3_19_7 (v := ?_) ?_ ?_
  rotate_left
  · intro w hSw
    delta o3_19_7
    go_simp
    try with_reducible rfl
  try simp only [Act.put, o3_19_7, List.setIfInBounds_toArray, List.set_cons_zero, List.set_cons_succ]
  refine tk 8 o3_19_8 (v := ?_) ?_ ?_
  rotate_left
  · intro w hSw
    delta o3_19_8
    go_simp
    try with_reducible rfl
  try simp only [Act.put, o3_19_8, List.setIfInBounds_toArray, List.set_cons_zero, List.set_cons_succ]
  refine tk 9 o3_19_9 (v := ?_) ?_ ?_
  rotate_left
  · intro w hSw
    delta o3_19_9
    go_simp
    try with_reducible rfl
  try simp only [Act.put, o3_19_9, List.setIfInBounds_toArray, List.set_cons_zero, List.set_cons_succ]
  refine tk 10 o3_19_10 (v := ?_) ?_ ?_
  rotate_left
  · intro w hSw
    delta o3_19_10
    go_simp
    try with_reducible rfl
  try simp only [Act.put, o3_19_10, List.setIfInBounds_toArray, List.set_cons_zero, List.set_cons_succ]
  refine tk 11 o3_19_11 (v := ?_) ?_ ?_
  rotate_left
  · intro w hSw
    delta o3_19_11
    go_simp
    try with_reducible rfl
  try simp only [Act.put, o3_19_11, List.setIfInBounds_toArray, List.set_cons_zero, List.set_cons_succ]
  refine tk 12 o3_19_12 (v := ?_) ?_ ?_
  rotate_left
  · intro w hSw
    delta o3_19_12
    go_simp
    try with_reducible rfl
  try simp only [Act.put, o3_19_12, List.setIfInBounds_toArray, List.set_cons_zero, List.set_cons_succ]
  refine tk 13 o3_19_13 (v := ?_) ?_ ?_
  rotate_left
  · intro w hSw
    delta o3_19_13
    go_simp
    try with_reducible rfl
  try simp only [Act.put, o3_19_13, List.setIfInBounds_toArray, List.set_cons_zero, List.set_cons_succ]
  refine tk 14 o3_19_14 (v := ?_) ?_ ?_
  rotate_left
  · intro w hSw
    delta o3_19_14
    go_simp
    try with_reducible rfl
  try simp only [Act.put, o3_19_14, List.setIfInBounds_toArray, List.set_cons_zero, List.set_cons_succ]
  refine tk 15 o3_19_15 (v := ?_) ?_ ?_
  rotate_left
  · intro w hSw
    delta o3_19_15
    go_simp
    try with_reducible rfl
  try simp only [Act.put, o3_19_15, List.setIfInBounds_toArray, List.set_cons_zero, List.set_cons_succ]
  refine tk 16 o3_19_16 (v := ?_) ?_ ?_
  rotate_left
  · intro w hSw
    delta o3_19_16
    go_simp
    try with_reducible rfl
  try simp only [Act.put, o3_19_16, List.setIfInBounds_toArray, List.set_cons_zero, List.set_cons_succ]
  refine tk 17 o3_19_17 (v := ?_) ?_ ?_
  rotate_left
  · intro w hSw
    delta o3_19_17
    go_simp
    try with_reducible rfl
  try simp only [Act.put, o3_19_17, List.setIfInBounds_toArray, List.set_cons_zero, List.set_cons_succ]
  refine tk 18 o3_19_18 (v := ?_) ?_ ?_
  rotate_left
  · intro w hSw
    delta o3_19_18
    go_simp
    try with_reducible rfl
  try simp only [Act.put, o3_19_18, List.setIfInBounds_toArray, List.set_cons_zero, List.set_cons_succ]
  refine tk 19 o3_19_19 (v := ?_) ?_ ?_
  rotate_left
  · intro w hSw
    delta o3_19_19
    go_simp
    try with_reducible rfl
  try simp only [Act.put, o3_19_19, List.setIfInBounds_toArray, List.set_cons_zero, List.set_cons_succ]
  refine tk 21 o3_19_21 (v := ?_) ?_ ?_
  rotate_left
  · intro w hSw
    delta o3_19_21
    go_simp
    try with_reducible rfl
  try simp only [Act.put, o3_19_21, List.setIfInBounds_toArray, List.set_cons_zero, List.set_cons_succ]
  refine rd1 20 o3_19_20 (fun K hK => ?_)
  delta o3_19_20
  go_simp
  refine (of_c z1 z2 Xh6.out _).mono ?_
  rintro e W229 ⟨rfl, hBl⟩
  replace hL := lv_below hL hBl
  clear hBl
  refine hK.out _ _ (lv_sub (sk (sk (sk (sk (sk (sk sn)))))) hL) (fun hHeld2 => ?_)
  clear hK K hHeld
  have hHeld := hHeld2
  clear hHeld2
  try simp only [Act.put, o3_19_20, List.setIfInBounds_toArray, List.set_cons_zero, List.set_cons_succ]
  refine rd1 22 o3_19_22 (fun K hK => ?_)
  delta o3_19_22
  go_simp
  refine (refof_c z1 z2 Xh6.out _).mono ?_
  rintro e W230 ⟨rfl, hBl⟩
  replace hL := lv_below hL hBl
  clear hBl
  refine hK.out _ _ (lv_sub (sk (sk (sk (sk (sk (sk sn)))))) hL) (fun hHeld2 => ?_)
  clear hK K hHeld
  have hHeld := hHeld2
  clear hHeld2
  try simp only [Act.put, o3_19_22, List.setIfInBounds_toArray, List.set_cons_zero, List.set_cons_succ]
  refine tk 23 o3_19_23 (v := ?_) ?_ ?_
  rotate_left
  · intro w hSw
    delta o3_19_23
    go_simp
    try with_reducible rfl
  try simp only [Act.put, o3_19_23, List.setIfInBounds_toArray, List.set_cons_zero, List.set_cons_succ]
  refine tk 24 o3_19_24 (v := ?_) ?_ ?_
  rotate_left
  · intro w hSw
    delta o3_19_24
    go_simp
    try with_reducible rfl
  try simp only [Act.put, o3_19_24, List.setIfInBounds_toArray, List.set_cons_zero, List.set_cons_succ]
  refine tk 25 o3_19_25 (v := ?_) ?_ ?_
  rotate_left
  · intro w hSw
    delta o3_19_25
    go_simp
    try with_reducible rfl
  try simp only [Act.put, o3_19_25, List.setIfInBounds_toArray, List.set_cons_zero, List.set_cons_succ]
  refine tk 26 o3_19_26 (v := ?_) ?_ ?_
  rotate_left
  · intro w hSw
    obtain ⟨k0, k1, k2, k3⟩ := lv_cells4 hSw lm5
    delta o3_19_26
    go_simp
    try with_reducible rfl
  try simp only [Act.put, o3_19_26, List.setIfInBounds_toArray, List.set_cons_zero, List.set_cons_succ]
  refine tk 27 o3_19_27 (v := ?_) ?_ ?_
  rotate_left
  · intro w hSw
    obtain ⟨k0, k1, k2, k3⟩ := lv_cells4 hSw lm4
    delta o3_19_27
    go_simp
    try with_reducible rfl
  try simp only [Act.put, o3_19_27, List.setIfInBounds_toArray, List.set_cons_zero, List.set_cons_succ]
  refine tk 29 o3_19_29 (v := ?_) ?_ ?_
  rotate_left
  · intro w hSw
    obtain ⟨k0, k1, k2, k3⟩ := lv_cells4 hSw lm5
    delta o3_19_29
    go_simp
    try with_reducible rfl
  try simp only [Act.put, o3_19_29, List.setIfInBounds_toArray, List.set_cons_zero, List.set_cons_succ]
  refine tk 30 o3_19_30 (v := ?_) ?_ ?_
  rotate_left
  · intro w hSw
    obtain ⟨k0, k1, k2, k3⟩ := lv_cells4 hSw lm4
    delta o3_19_30
    go_simp
    try with_reducible rfl
  try simp only [Act.put, o3_19_30, List.setIfInBounds_toArray, List.set_cons_zero, List.set_cons_succ]
  refine rd1 28 o3_19_28 (fun K hK => ?_)
  delta o3_19_28
  go_simp
  refine (cmp_c ha hb Xh7.out _).mono ?_
  rintro e W231 ⟨rfl, hBl⟩
  replace hL := lv_below hL hBl
  clear hBl
  refine hK.out _ _ (lv_sub (sk (sk (sk (sk (sk (sk sn)))))) hL) (fun hHeld2 => ?_)
  clear hK K hHeld
  have hHeld := hHeld2
  clear hHeld2
  try simp only [Act.put, o3_19_28, List.setIfInBounds_toArray, List.set_cons_zero, List.set_cons_succ]
  refine rd1 31 o3_19_31 (fun K hK => ?_)
  delta o3_19_31
  go_simp
  refine (refcmpn ha hb Xh7.out _).mono ?_
  rintro e W232 ⟨rfl, hBl⟩
  replace hL := lv_below hL hBl
  clear hBl
  refine hK.out _ _ (lv_sub (sk (sk (sk (sk (sk (sk sn)))))) hL) (fun hHeld2 => ?_)
  clear hK K hHeld
  have hHeld := hHeld2
  clear hHeld2
  try simp only [Act.put, o3_19_31, List.setIfInBounds_toArray, List.set_cons_zero, List.set_cons_succ]
  refine tk 32 o3_19_32 (v := ?_) ?_ ?_
  rotate_left
  · intro w hSw
    delta o3_19_32
    go_simp
    try with_reducible rfl
  try simp only [Act.put, o3_19_32, List.setIfInBounds_toArray, List.set_cons_zero, List.set_cons_succ]
  refine tk 33 o3_19_33 (v := ?_) ?_ ?_
  rotate_left
  · intro w hSw
    delta o3_19_33
    go_simp
    try with_reducible rfl
  try simp only [Act.put, o3_19_33, List.setIfInBounds_toArray, List.set_cons_zero, List.set_cons_succ]
  refine tk 34 o3_19_34 (v := ?_) ?_ ?_
  rotate_left
  · intro w hSw
    delta o3_19_34
    go_simp
    try with_reducible rfl
  try simp only [Act.put, o3_19_34, List.setIfInBounds_toArray, List.set_cons_zero, List.set_cons_succ]
  refine tk 35 o3_19_35 (v := ?_) ?_ ?_
  rotate_left
  · intro w hSw
    obtain ⟨k0, k1, k2, k3⟩ := lv_cells4 hSw lm5
    delta o3_19_35
    go_simp
    try with_reducible rfl
  try simp only [Act.put, o3_19_35, List.setIfInBounds_toArray, List.set_cons_zero, List.set_cons_succ]
  refine tk 37 o3_19_37 (v := ?_) ?_ ?_
  rotate_left
  · intro w hSw
    obtain ⟨k0, k1, k2, k3⟩ := lv_cells4 hSw lm5
    delta o3_19_37
    go_simp
    try with_reducible rfl
  try simp only [Act.put, o3_19_37, List.setIfInBounds_toArray, List.set_cons_zero, List.set_cons_succ]
  refine rd1 36 o3_19_36 (fun K hK => ?_)
  delta o3_19_36
  go_simp
  refine (sign_c ha Xh8.out _).mono ?_
  rintro e W233 ⟨rfl, hBl⟩
  replace hL := lv_below hL hBl
  clear hBl
  refine hK.out _ _ (lv_sub (sk (sk (sk (sk (sk (sk sn)))))) hL) (fun hHeld2 => ?_)
  clear hK K hHeld
  have hHeld := hHeld2
  clear hHeld2
  try simp only [Act.put, o3_19_36, List.setIfInBounds_toArray, List.set_cons_zero, List.set_cons_succ]
  refine rd1 38 o3_19_38 (fun K hK => ?_)
  delta o3_19_38
  go_simp
  refine (refsignn ha Xh8.out _).mono ?_
  rintro e W234 ⟨rfl, hBl⟩
  replace hL := lv_below hL hBl
  clear hBl
  refine hK.out _ _ (lv_sub (sk (sk (sk (sk (sk (sk sn)))))) hL) (fun hHeld2 => ?_)
  clear hK K hHeld
  have hHeld := hHeld2
  clear hHeld2
  try simp only [Act.put, o3_19_38, List.setIfInBounds_toArray, List.set_cons_zero, List.set_cons_succ]
  refine tk 39 o3_19_39 (v := ?_) ?_ ?_
  rotate_left
  · intro w hSw
    delta o3_19_39
    go_simp
    try with_reducible rfl
  try simp only [Act.put, o3_19_39, List.setIfInBounds_toArray, List.set_cons_zero, List.set_cons_succ]
  refine tk 40 o3_19_40 (v := ?_) ?_ ?_
  rotate_left
  · intro w hSw
    delta o3_19_40
    go_simp
    try with_reducible rfl
  try simp only [Act.put, o3_19_40, List.setIfInBounds_toArray, List.set_cons_zero, List.set_cons_succ]
  refine tk 41 o3_19_41 (v := ?_) ?_ ?_
  rotate_left
  · intro w hSw
    delta o3_19_41
    go_simp
    try with_reducible rfl
  try simp only [Act.put, o3_19_41, List.setIfInBounds_toArray, List.set_cons_zero, List.set_cons_succ]
  refine rd1 42 o3_19_42 (fun K hK => ?_)
  delta o3_19_42
  go_simp
  refine (wakes_x _).mono ?_
  rintro e W235 ⟨rfl, hBl⟩
  replace hL := lv_below hL hBl
  clear hBl
  refine hK.out _ _ (lv_sub (sk (sk (sk (sk (sk (sk sn)))))) hL) (fun hHeld2 => ?_)
  clear hK K hHeld
  have hHeld := hHeld2
  clear hHeld2
  try simp only [Act.put, o3_19_42, List.setIfInBounds_toArray, List.set_cons_zero, List.set_cons_succ]
  refine tk 43 o3_19_43 (v := ?_) ?_ ?_
  rotate_left
  · intro w hSw
    delta o3_19_43
    go_simp
    try with_reducible rfl
  try simp only [Act.put, o3_19_43, List.setIfInBounds_toArray, List.set_cons_zero, List.set_cons_succ]
  refine tk 44 o3_19_44 (v := ?_) ?_ ?_
  rotate_left
  · intro w hSw
    delta o3_19_44
    go_simp
    try with_reducible rfl
  try simp only [Act.put, o3_19_44, List.setIfInBounds_toArray, List.set_cons_zero, List.set_cons_succ]
  refine wpAnyH_done (by kernel_rfl) ?_ _
  clear hHeld
  go_wp2_with fail
  go_ret
  exact ⟨rfl, hL.2.2.2⟩

set_option maxRecDepth 100000 in
set_option maxHeartbeats 8000000 in
theorem widetells_some (a b r1 r2 r3 r4 r6 : Nat → Nat) (o1 o2 o3 o4 o5 : Bool) (i1 c1 c2 z : Int) (ha : Wds a) (hb : Wds b) (z1 : -9223372036854775808 ≤ z) (z2 : z ≤ 9223372036854775807) (s : Nat → Nat) (os : Bool) (L : Nat → Nat → Nat) (bb oo n cap : Nat) (hcap : n ≤ cap) (hn : cap ≤ maxLen) (h50 : (n : Int) ≤ 50) (h1 : addR a b = r1) (g1 : addO a b = o1) (h2 : subR a b = r2) (g2 : subO a b = o2) (h3 : mulR a b = r3) (g3 : mulO a b = o3) (h4 : negR a = r4) (g4 : negO a = o4) (h5 : intI a = i1) (g5 : intB a = o5) (h6 : ofR z = r6) (h7 : cmpR a b = c1) (h8 : signI a = c2) (h9 : (sumSt L n).1 = s) (g9 : (sumSt L n).2 = os)  (w : World) (hS : SlA w bb oo n L) :
    Calls Try.prog 3 #[.agg #[.int .u64 (a 0), .int .u64 (a 1), .int .u64 (a 2), .int .u64 (a 3)], .agg #[.int .u64 (b 0), .int .u64 (b 1), .int .u64 (b 2), .int .u64 (b 3)], .int .i64 z, .slice (some ⟨bb, oo, none⟩) n cap] w fun ee w' => ee = .returned (.bool true) ∧ Below w.heap.size w w' := by
  have Er1 := fun w => eq_c (eqB_self r1) w
  have Er2 := fun w => eq_c (eqB_self r2) w
  have Er3 := fun w => eq_c (eqB_self r3) w
  have Er4 := fun w => eq_c (eqB_self r4) w
  have Er6 := fun w => eq_c (eqB_self r6) w
  have Es := fun w => eq_c (eqB_self s) w
  have HS := Lib.hid hS
  clear hS
  have Xh1 := Lib.hid h1
  have Xg1 := Lib.hid g1
  have Xh2 := Lib.hid h2
  have Xg2 := Lib.hid g2
  have Xh3 := Lib.hid h3
  have Xg3 := Lib.hid g3
  have Xh4 := Lib.hid h4
  have Xg4 := Lib.hid g4
  have Xh5 := Lib.hid h5
  have Xg5 := Lib.hid g5
  have Xh6 := Lib.hid h6
  have Xh7 := Lib.hid h7
  have Xh8 := Lib.hid h8
  have Xh9 := Lib.hid h9
  have Xg9 := Lib.hid g9
  clear h1 g1 h2 g2 h3 g3 h4 g4 h5 g5 h6 h7 h8 h9 g9
  have hL := lv_nil w
  go_enter Try.func3, Try.ntmps3
  go_wp2_with fail
  obtain ⟨V1, B2, hV3, hB4, hL⟩ := lv_grow hL (Obj.cells #[.int .u64 (a 0), .int .u64 (a 1), .int .u64 (a 2), .int .u64 (a 3)] 24)
  rw [hV3]
  try rw [hB4]
  obtain ⟨V5, B6, hV7, hB8, hL⟩ := lv_grow hL (Obj.cells #[.int .u64 (b 0), .int .u64 (b 1), .int .u64 (b 2), .int .u64 (b 3)] 24)
  rw [hV7]
  have hs9 : B2 + 1 = B6 := by rw [← hB8, ← hV3, World.size_alloc, hB4]
  try rw [hs9]
  clear hs9
  clear hV3 hB4 hV7 hB8
  refine (add_c ha hb Xh1.out Xg1.out _).mono ?_
  rintro e W10 ⟨rfl, hB⟩
  replace hL := lv_below hL hB
  clear hB
  obtain ⟨q11, q12, q13, q14⟩ := lv_cells4 hL lm1
  obtain ⟨q15, q16, q17, q18⟩ := lv_cells4 hL lm0
  have l19 : B2 < (W10).heap.size := lv_lt hL lm1
  have l20 : ¬ B2 = (W10).heap.size := Nat.ne_of_lt l19
  have l21 : ¬ (W10).heap.size = B2 := fun h => l20 h.symm
  have l22 : B6 < (W10).heap.size := lv_lt hL lm0
  have l23 : ¬ B6 = (W10).heap.size := Nat.ne_of_lt l22
  have l24 : ¬ (W10).heap.size = B6 := fun h => l23 h.symm
  go_wp2_with fail
  clear q11 q12 q13 q14 q15 q16 q17 q18 l19 l20 l21 l22 l23 l24
  obtain ⟨V25, B26, hV27, hB28, hL⟩ := lv_grow hL (Obj.cells #[.int .u64 (r1 0), .int .u64 (r1 1), .int .u64 (r1 2), .int .u64 (r1 3)] 24)
  rw [hV27]
  try rw [hB28]
  clear hV27 hB28
  refine (refaddn ha hb Xh1.out Xg1.out _).mono ?_
  rintro e W29 ⟨rfl, hB⟩
  replace hL := lv_below hL hB
  clear hB
  obtain ⟨q30, q31, q32, q33⟩ := lv_cells4 hL lm2
  obtain ⟨q34, q35, q36, q37⟩ := lv_cells4 hL lm1
  have l38 : B2 < (W29).heap.size := lv_lt hL lm2
  have l39 : ¬ B2 = (W29).heap.size := Nat.ne_of_lt l38
  have l40 : ¬ (W29).heap.size = B2 := fun h => l39 h.symm
  have l41 : B6 < (W29).heap.size := lv_lt hL lm1
  have l42 : ¬ B6 = (W29).heap.size := Nat.ne_of_lt l41
  have l43 : ¬ (W29).heap.size = B6 := fun h => l42 h.symm
  go_wp2_with fail
  clear q30 q31 q32 q33 q34 q35 q36 q37 l38 l39 l40 l41 l42 l43
  obtain ⟨V44, B45, hV46, hB47, hL⟩ := lv_grow hL (Obj.cells #[.int .u64 (r1 0), .int .u64 (r1 1), .int .u64 (r1 2), .int .u64 (r1 3)] 24)
  rw [hV46]
  try rw [hB47]
  clear hV46 hB47
  refine (sub_c ha hb Xh2.out Xg2.out _).mono ?_
  rintro e W48 ⟨rfl, hB⟩
  replace hL := lv_below hL hB
  clear hB
  obtain ⟨q49, q50, q51, q52⟩ := lv_cells4 hL lm3
  obtain ⟨q53, q54, q55, q56⟩ := lv_cells4 hL lm2
  have l57 : B2 < (W48).heap.size := lv_lt hL lm3
  have l58 : ¬ B2 = (W48).heap.size := Nat.ne_of_lt l57
  have l59 : ¬ (W48).heap.size = B2 := fun h => l58 h.symm
  have l60 : B6 < (W48).heap.size := lv_lt hL lm2
  have l61 : ¬ B6 = (W48).heap.size := Nat.ne_of_lt l60
  have l62 : ¬ (W48).heap.size = B6 := fun h => l61 h.symm
  go_wp2_with fail
  clear q49 q50 q51 q52 q53 q54 q55 q56 l57 l58 l59 l60 l61 l62
  obtain ⟨V63, B64, hV65, hB66, hL⟩ := lv_grow hL (Obj.cells #[.int .u64 (r2 0), .int .u64 (r2 1), .int .u64 (r2 2), .int .u64 (r2 3)] 24)
  rw [hV65]
  try rw [hB66]
  clear hV65 hB66
  refine (refsubn ha hb Xh2.out Xg2.out _).mono ?_
  rintro e W67 ⟨rfl, hB⟩
  replace hL := lv_below hL hB
  clear hB
  obtain ⟨q68, q69, q70, q71⟩ := lv_cells4 hL lm2
  obtain ⟨q72, q73, q74, q75⟩ := lv_cells4 hL lm1
  obtain ⟨q76, q77, q78, q79⟩ := lv_cells4 hL lm0
  obtain ⟨q80, q81, q82, q83⟩ := lv_cells4 hL lm4
  obtain ⟨q84, q85, q86, q87⟩ := lv_cells4 hL lm3
  have l88 : B26 < (W67).heap.size := lv_lt hL lm2
  have l89 : ¬ B26 = (W67).heap.size := Nat.ne_of_lt l88
  have l90 : ¬ (W67).heap.size = B26 := fun h => l89 h.symm
  have l91 : B45 < (W67).heap.size := lv_lt hL lm1
  have l92 : ¬ B45 = (W67).heap.size := Nat.ne_of_lt l91
  have l93 : ¬ (W67).heap.size = B45 := fun h => l92 h.symm
  have l94 : B64 < (W67).heap.size := lv_lt hL lm0
  have l95 : ¬ B64 = (W67).heap.size := Nat.ne_of_lt l94
  have l96 : ¬ (W67).heap.size = B64 := fun h => l95 h.symm
  have l97 : B2 < (W67).heap.size := lv_lt hL lm4
  have l98 : ¬ B2 = (W67).heap.size := Nat.ne_of_lt l97
  have l99 : ¬ (W67).heap.size = B2 := fun h => l98 h.symm
  have l100 : B6 < (W67).heap.size := lv_lt hL lm3
  have l101 : ¬ B6 = (W67).heap.size := Nat.ne_of_lt l100
  have l102 : ¬ (W67).heap.size = B6 := fun h => l101 h.symm
  go_wp2_with fail
  clear q68 q69 q70 q71 q72 q73 q74 q75 q76 q77 q78 q79 q80 q81 q82 q83 q84 q85 q86 q87 l88 l89 l90 l91 l92 l93 l94 l95 l96 l97 l98 l99 l100 l101 l102
  obtain ⟨V103, B104, hV105, hB106, hL⟩ := lv_grow hL (Obj.cells #[.int .u64 (r2 0), .int .u64 (r2 1), .int .u64 (r2 2), .int .u64 (r2 3)] 24)
  rw [hV105]
  try rw [hB106]
  clear hV105 hB106
  refine (mul_c ha hb Xh3.out Xg3.out _).mono ?_
  rintro e W107 ⟨rfl, hB⟩
  replace hL := lv_below hL hB
  clear hB
  obtain ⟨q108, q109, q110, q111⟩ := lv_cells4 hL lm5
  obtain ⟨q112, q113, q114, q115⟩ := lv_cells4 hL lm4
  obtain ⟨q116, q117, q118, q119⟩ := lv_cells4 hL lm3
  have z120 := lv_frozen hL lm3 0
  have z121 := lv_frozen hL lm3 1
  have z122 := lv_frozen hL lm3 2
  have z123 := lv_frozen hL lm3 3
  have d124 : B2 ≠ B26 := lv_dis hL (i := 3) (j := 5) (by omega) rfl rfl
  have d125 : B26 ≠ B2 := fun h => d124 h.symm
  have d126 : B6 ≠ B26 := lv_dis hL (i := 3) (j := 4) (by omega) rfl rfl
  have d127 : B26 ≠ B6 := fun h => d126 h.symm
  go_wp2_with fail
  clear q108 q109 q110 q111 q112 q113 q114 q115 q116 q117 q118 q119 z120 z121 z122 z123 d124 d125 d126 d127
  obtain ⟨V128, hV129, hL⟩ : ∃ V, (World.setCell (World.setCell (World.setCell (World.setCell W107 ⟨B26, 0, none⟩ (.int .u64 (r3 0))) ⟨B26, 1, none⟩ (.int .u64 (r3 1))) ⟨B26, 2, none⟩ (.int .u64 (r3 2))) ⟨B26, 3, none⟩ (.int .u64 (r3 3))) = V ∧ Lv w [(B104, Obj.cells #[.int .u64 (r2 0), .int .u64 (r2 1), .int .u64 (r2 2), .int .u64 (r2 3)] 24 (0, 0)), (B64, Obj.cells #[.int .u64 (r2 0), .int .u64 (r2 1), .int .u64 (r2 2), .int .u64 (r2 3)] 24 (0, 0)), (B45, Obj.cells #[.int .u64 (r1 0), .int .u64 (r1 1), .int .u64 (r1 2), .int .u64 (r1 3)] 24 (0, 0)), (B26, Obj.cells #[.int .u64 (r3 0), .int .u64 (r3 1), .int .u64 (r3 2), .int .u64 (r3 3)] 24 (0, 0)), (B6, Obj.cells #[.int .u64 (b 0), .int .u64 (b 1), .int .u64 (b 2), .int .u64 (b 3)] 24 (0, 0)), (B2, Obj.cells #[.int .u64 (a 0), .int .u64 (a 1), .int .u64 (a 2), .int .u64 (a 3)] 24 (0, 0))] V := ⟨_, rfl, lv_store4 [(B104, Obj.cells #[.int .u64 (r2 0), .int .u64 (r2 1), .int .u64 (r2 2), .int .u64 (r2 3)] 24 (0, 0)), (B64, Obj.cells #[.int .u64 (r2 0), .int .u64 (r2 1), .int .u64 (r2 2), .int .u64 (r2 3)] 24 (0, 0)), (B45, Obj.cells #[.int .u64 (r1 0), .int .u64 (r1 1), .int .u64 (r1 2), .int .u64 (r1 3)] 24 (0, 0))] hL _ _ _ _⟩
  rw [hV129]
  clear hV129
  refine (refmuln ha hb Xh3.out Xg3.out _).mono ?_
  rintro e W130 ⟨rfl, hB⟩
  replace hL := lv_below hL hB
  clear hB
  obtain ⟨q131, q132, q133, q134⟩ := lv_cells4 hL lm5
  obtain ⟨q135, q136, q137, q138⟩ := lv_cells4 hL lm2
  have z139 := lv_frozen hL lm2 0
  have z140 := lv_frozen hL lm2 1
  have z141 := lv_frozen hL lm2 2
  have z142 := lv_frozen hL lm2 3
  have d143 : B2 ≠ B45 := lv_dis hL (i := 2) (j := 5) (by omega) rfl rfl
  have d144 : B45 ≠ B2 := fun h => d143 h.symm
  go_wp2_with fail
  clear q131 q132 q133 q134 q135 q136 q137 q138 z139 z140 z141 z142 d143 d144
  obtain ⟨V145, hV146, hL⟩ : ∃ V, (World.setCell (World.setCell (World.setCell (World.setCell W130 ⟨B45, 0, none⟩ (.int .u64 (r3 0))) ⟨B45, 1, none⟩ (.int .u64 (r3 1))) ⟨B45, 2, none⟩ (.int .u64 (r3 2))) ⟨B45, 3, none⟩ (.int .u64 (r3 3))) = V ∧ Lv w [(B104, Obj.cells #[.int .u64 (r2 0), .int .u64 (r2 1), .int .u64 (r2 2), .int .u64 (r2 3)] 24 (0, 0)), (B64, Obj.cells #[.int .u64 (r2 0), .int .u64 (r2 1), .int .u64 (r2 2), .int .u64 (r2 3)] 24 (0, 0)), (B45, Obj.cells #[.int .u64 (r3 0), .int .u64 (r3 1), .int .u64 (r3 2), .int .u64 (r3 3)] 24 (0, 0)), (B26, Obj.cells #[.int .u64 (r3 0), .int .u64 (r3 1), .int .u64 (r3 2), .int .u64 (r3 3)] 24 (0, 0)), (B6, Obj.cells #[.int .u64 (b 0), .int .u64 (b 1), .int .u64 (b 2), .int .u64 (b 3)] 24 (0, 0)), (B2, Obj.cells #[.int .u64 (a 0), .int .u64 (a 1), .int .u64 (a 2), .int .u64 (a 3)] 24 (0, 0))] V := ⟨_, rfl, lv_store4 [(B104, Obj.cells #[.int .u64 (r2 0), .int .u64 (r2 1), .int .u64 (r2 2), .int .u64 (r2 3)] 24 (0, 0)), (B64, Obj.cells #[.int .u64 (r2 0), .int .u64 (r2 1), .int .u64 (r2 2), .int .u64 (r2 3)] 24 (0, 0))] hL _ _ _ _⟩
  rw [hV146]
  clear hV146
  refine (neg_c ha Xh4.out Xg4.out _).mono ?_
  rintro e W147 ⟨rfl, hB⟩
  replace hL := lv_below hL hB
  clear hB
  obtain ⟨q148, q149, q150, q151⟩ := lv_cells4 hL lm5
  obtain ⟨q152, q153, q154, q155⟩ := lv_cells4 hL lm1
  have z156 := lv_frozen hL lm1 0
  have z157 := lv_frozen hL lm1 1
  have z158 := lv_frozen hL lm1 2
  have z159 := lv_frozen hL lm1 3
  have d160 : B2 ≠ B64 := lv_dis hL (i := 1) (j := 5) (by omega) rfl rfl
  have d161 : B64 ≠ B2 := fun h => d160 h.symm
  go_wp2_with fail
  clear q148 q149 q150 q151 q152 q153 q154 q155 z156 z157 z158 z159 d160 d161
  obtain ⟨V162, hV163, hL⟩ : ∃ V, (World.setCell (World.setCell (World.setCell (World.setCell W147 ⟨B64, 0, none⟩ (.int .u64 (r4 0))) ⟨B64, 1, none⟩ (.int .u64 (r4 1))) ⟨B64, 2, none⟩ (.int .u64 (r4 2))) ⟨B64, 3, none⟩ (.int .u64 (r4 3))) = V ∧ Lv w [(B104, Obj.cells #[.int .u64 (r2 0), .int .u64 (r2 1), .int .u64 (r2 2), .int .u64 (r2 3)] 24 (0, 0)), (B64, Obj.cells #[.int .u64 (r4 0), .int .u64 (r4 1), .int .u64 (r4 2), .int .u64 (r4 3)] 24 (0, 0)), (B45, Obj.cells #[.int .u64 (r3 0), .int .u64 (r3 1), .int .u64 (r3 2), .int .u64 (r3 3)] 24 (0, 0)), (B26, Obj.cells #[.int .u64 (r3 0), .int .u64 (r3 1), .int .u64 (r3 2), .int .u64 (r3 3)] 24 (0, 0)), (B6, Obj.cells #[.int .u64 (b 0), .int .u64 (b 1), .int .u64 (b 2), .int .u64 (b 3)] 24 (0, 0)), (B2, Obj.cells #[.int .u64 (a 0), .int .u64 (a 1), .int .u64 (a 2), .int .u64 (a 3)] 24 (0, 0))] V := ⟨_, rfl, lv_store4 [(B104, Obj.cells #[.int .u64 (r2 0), .int .u64 (r2 1), .int .u64 (r2 2), .int .u64 (r2 3)] 24 (0, 0))] hL _ _ _ _⟩
  rw [hV163]
  clear hV163
  refine (refneg_n ha Xh4.out Xg4.out _).mono ?_
  rintro e W164 ⟨rfl, hB⟩
  replace hL := lv_below hL hB
  clear hB
  obtain ⟨q165, q166, q167, q168⟩ := lv_cells4 hL lm3
  obtain ⟨q169, q170, q171, q172⟩ := lv_cells4 hL lm2
  obtain ⟨q173, q174, q175, q176⟩ := lv_cells4 hL lm1
  obtain ⟨q177, q178, q179, q180⟩ := lv_cells4 hL lm0
  have z181 := lv_frozen hL lm0 0
  have z182 := lv_frozen hL lm0 1
  have z183 := lv_frozen hL lm0 2
  have z184 := lv_frozen hL lm0 3
  have d185 : B26 ≠ B104 := lv_dis hL (i := 0) (j := 3) (by omega) rfl rfl
  have d186 : B104 ≠ B26 := fun h => d185 h.symm
  have d187 : B45 ≠ B104 := lv_dis hL (i := 0) (j := 2) (by omega) rfl rfl
  have d188 : B104 ≠ B45 := fun h => d187 h.symm
  have d189 : B64 ≠ B104 := lv_dis hL (i := 0) (j := 1) (by omega) rfl rfl
  have d190 : B104 ≠ B64 := fun h => d189 h.symm
  go_wp2_with fail
  clear q165 q166 q167 q168 q169 q170 q171 q172 q173 q174 q175 q176 q177 q178 q179 q180 z181 z182 z183 z184 d185 d186 d187 d188 d189 d190
  obtain ⟨V191, hV192, hL⟩ : ∃ V, (World.setCell (World.setCell (World.setCell (World.setCell W164 ⟨B104, 0, none⟩ (.int .u64 (r4 0))) ⟨B104, 1, none⟩ (.int .u64 (r4 1))) ⟨B104, 2, none⟩ (.int .u64 (r4 2))) ⟨B104, 3, none⟩ (.int .u64 (r4 3))) = V ∧ Lv w [(B104, Obj.cells #[.int .u64 (r4 0), .int .u64 (r4 1), .int .u64 (r4 2), .int .u64 (r4 3)] 24 (0, 0)), (B64, Obj.cells #[.int .u64 (r4 0), .int .u64 (r4 1), .int .u64 (r4 2), .int .u64 (r4 3)] 24 (0, 0)), (B45, Obj.cells #[.int .u64 (r3 0), .int .u64 (r3 1), .int .u64 (r3 2), .int .u64 (r3 3)] 24 (0, 0)), (B26, Obj.cells #[.int .u64 (r3 0), .int .u64 (r3 1), .int .u64 (r3 2), .int .u64 (r3 3)] 24 (0, 0)), (B6, Obj.cells #[.int .u64 (b 0), .int .u64 (b 1), .int .u64 (b 2), .int .u64 (b 3)] 24 (0, 0)), (B2, Obj.cells #[.int .u64 (a 0), .int .u64 (a 1), .int .u64 (a 2), .int .u64 (a 3)] 24 (0, 0))] V := ⟨_, rfl, lv_store4 [] hL _ _ _ _⟩
  rw [hV192]
  clear hV192
  refine (sumn hcap hn HS.out hL.2.2.2 Xh9.out Xg9.out).mono ?_
  rintro e W193 ⟨rfl, hB⟩
  replace hL := lv_below hL hB
  clear hB
  obtain ⟨q194, q195, q196, q197⟩ := lv_cells4 hL lm3
  have z198 := lv_frozen hL lm3 0
  have z199 := lv_frozen hL lm3 1
  have z200 := lv_frozen hL lm3 2
  have z201 := lv_frozen hL lm3 3
  go_wp2_with fail
  clear q194 q195 q196 q197 z198 z199 z200 z201
  obtain ⟨V202, hV203, hL⟩ : ∃ V, (World.setCell (World.setCell (World.setCell (World.setCell W193 ⟨B26, 0, none⟩ (.int .u64 (s 0))) ⟨B26, 1, none⟩ (.int .u64 (s 1))) ⟨B26, 2, none⟩ (.int .u64 (s 2))) ⟨B26, 3, none⟩ (.int .u64 (s 3))) = V ∧ Lv w [(B104, Obj.cells #[.int .u64 (r4 0), .int .u64 (r4 1), .int .u64 (r4 2), .int .u64 (r4 3)] 24 (0, 0)), (B64, Obj.cells #[.int .u64 (r4 0), .int .u64 (r4 1), .int .u64 (r4 2), .int .u64 (r4 3)] 24 (0, 0)), (B45, Obj.cells #[.int .u64 (r3 0), .int .u64 (r3 1), .int .u64 (r3 2), .int .u64 (r3 3)] 24 (0, 0)), (B26, Obj.cells #[.int .u64 (s 0), .int .u64 (s 1), .int .u64 (s 2), .int .u64 (s 3)] 24 (0, 0)), (B6, Obj.cells #[.int .u64 (b 0), .int .u64 (b 1), .int .u64 (b 2), .int .u64 (b 3)] 24 (0, 0)), (B2, Obj.cells #[.int .u64 (a 0), .int .u64 (a 1), .int .u64 (a 2), .int .u64 (a 3)] 24 (0, 0))] V := ⟨_, rfl, lv_store4 [(B104, Obj.cells #[.int .u64 (r4 0), .int .u64 (r4 1), .int .u64 (r4 2), .int .u64 (r4 3)] 24 (0, 0)), (B64, Obj.cells #[.int .u64 (r4 0), .int .u64 (r4 1), .int .u64 (r4 2), .int .u64 (r4 3)] 24 (0, 0)), (B45, Obj.cells #[.int .u64 (r3 0), .int .u64 (r3 1), .int .u64 (r3 2), .int .u64 (r3 3)] 24 (0, 0))] hL _ _ _ _⟩
  rw [hV203]
  clear hV203
  refine (refsumn hcap hn HS.out hL.2.2.2 Xh9.out Xg9.out).mono ?_
  rintro e W204 ⟨rfl, hB⟩
  replace hL := lv_below hL hB
  clear hB
  obtain ⟨q205, q206, q207, q208⟩ := lv_cells4 hL lm5
  obtain ⟨q209, q210, q211, q212⟩ := lv_cells4 hL lm2
  have z213 := lv_frozen hL lm2 0
  have z214 := lv_frozen hL lm2 1
  have z215 := lv_frozen hL lm2 2
  have z216 := lv_frozen hL lm2 3
  have d217 : B2 ≠ B45 := lv_dis hL (i := 2) (j := 5) (by omega) rfl rfl
  have d218 : B45 ≠ B2 := fun h => d217 h.symm
  go_wp2_with fail
  clear q205 q206 q207 q208 q209 q210 q211 q212 z213 z214 z215 z216 d217 d218
  obtain ⟨V219, hV220, hL⟩ : ∃ V, (World.setCell (World.setCell (World.setCell (World.setCell W204 ⟨B45, 0, none⟩ (.int .u64 (s 0))) ⟨B45, 1, none⟩ (.int .u64 (s 1))) ⟨B45, 2, none⟩ (.int .u64 (s 2))) ⟨B45, 3, none⟩ (.int .u64 (s 3))) = V ∧ Lv w [(B104, Obj.cells #[.int .u64 (r4 0), .int .u64 (r4 1), .int .u64 (r4 2), .int .u64 (r4 3)] 24 (0, 0)), (B64, Obj.cells #[.int .u64 (r4 0), .int .u64 (r4 1), .int .u64 (r4 2), .int .u64 (r4 3)] 24 (0, 0)), (B45, Obj.cells #[.int .u64 (s 0), .int .u64 (s 1), .int .u64 (s 2), .int .u64 (s 3)] 24 (0, 0)), (B26, Obj.cells #[.int .u64 (s 0), .int .u64 (s 1), .int .u64 (s 2), .int .u64 (s 3)] 24 (0, 0)), (B6, Obj.cells #[.int .u64 (b 0), .int .u64 (b 1), .int .u64 (b 2), .int .u64 (b 3)] 24 (0, 0)), (B2, Obj.cells #[.int .u64 (a 0), .int .u64 (a 1), .int .u64 (a 2), .int .u64 (a 3)] 24 (0, 0))] V := ⟨_, rfl, lv_store4 [(B104, Obj.cells #[.int .u64 (r4 0), .int .u64 (r4 1), .int .u64 (r4 2), .int .u64 (r4 3)] 24 (0, 0)), (B64, Obj.cells #[.int .u64 (r4 0), .int .u64 (r4 1), .int .u64 (r4 2), .int .u64 (r4 3)] 24 (0, 0))] hL _ _ _ _⟩
  rw [hV220]
  clear hV220
  refine (int_c ha Xh5.out Xg5.out _).mono ?_
  rintro e W221 ⟨rfl, hB⟩
  replace hL := lv_below hL hB
  clear hB
  obtain ⟨q222, q223, q224, q225⟩ := lv_cells4 hL lm5
  go_wp2_with fail
  clear q222 q223 q224 q225
  refine (refintn ha Xh5.out Xg5.out _).mono ?_
  rintro e W226 ⟨rfl, hB⟩
  replace hL := lv_below hL hB
  clear hB
  go_wp2_with fail
  refine wp_region_held_drew (S := fun W' => Lv w [(B104, Obj.cells #[.int .u64 (r4 0), .int .u64 (r4 1), .int .u64 (r4 2), .int .u64 (r4 3)] 24 (0, 0)), (B64, Obj.cells #[.int .u64 (r4 0), .int .u64 (r4 1), .int .u64 (r4 2), .int .u64 (r4 3)] 24 (0, 0)), (B45, Obj.cells #[.int .u64 (s 0), .int .u64 (s 1), .int .u64 (s 2), .int .u64 (s 3)] 24 (0, 0)), (B26, Obj.cells #[.int .u64 (s 0), .int .u64 (s 1), .int .u64 (s 2), .int .u64 (s 3)] 24 (0, 0)), (B6, Obj.cells #[.int .u64 (b 0), .int .u64 (b 1), .int .u64 (b 2), .int .u64 (b 3)] 24 (0, 0)), (B2, Obj.cells #[.int .u64 (a 0), .int .u64 (a 1), .int .u64 (a 2), .int .u64 (a 3)] 24 (0, 0))] W') (by kernel_rfl) (lv_drew (lv_sub (sk (sk (sk (sk (sk (sk sn)))))) hL)) (fun hHeld => ?_)
  replace hL := lv_drew hL
  obtain ⟨D227, hD228⟩ : ∃ W0, World.drew W226 = W0 := ⟨_, rfl⟩
  rw [hD228] at hHeld hL ⊢
  clear hD228
  refine tk 0 o3_19_0 (v := ?_) ?_ ?_
  rotate_left
  · intro w hSw
    obtain ⟨k0, k1, k2, k3⟩ := lv_cells4 hSw lm3
    delta o3_19_0
    go_simp
    try with_reducible rfl
  try simp only [Act.put, o3_19_0, List.setIfInBounds_toArray, List.set_cons_zero, List.set_cons_succ]
  refine tk 1 o3_19_1 (v := ?_) ?_ ?_
  rotate_left
  · intro w hSw
    obtain ⟨k0, k1, k2, k3⟩ := lv_cells4 hSw lm2
    delta o3_19_1
    go_simp
    try with_reducible rfl
  try simp only [Act.put, o3_19_1, List.setIfInBounds_toArray, List.set_cons_zero, List.set_cons_succ]
  refine tk 2 o3_19_2 (v := ?_) ?_ ?_
  rotate_left
  · intro w hSw
    delta o3_19_2
    go_simp
    try with_reducible rfl
  try simp only [Act.put, o3_19_2, List.setIfInBounds_toArray, List.set_cons_zero, List.set_cons_succ]
  refine tk 3 o3_19_3 (v := ?_) ?_ ?_
  rotate_left
  · intro w hSw
    delta o3_19_3
    go_simp
    try with_reducible rfl
  try simp only [Act.put, o3_19_3, List.setIfInBounds_toArray, List.set_cons_zero, List.set_cons_succ]
  refine tk 4 o3_19_4 (v := ?_) ?_ ?_
  rotate_left
  · intro w hSw
    delta o3_19_4
    go_simp
    try with_reducible rfl
  try simp only [Act.put, o3_19_4, List.setIfInBounds_toArray, List.set_cons_zero, List.set_cons_succ]
  refine tk 5 o3_19_5 (v := ?_) ?_ ?_
  rotate_left
  · intro w hSw
    delta o3_19_5
    go_simp
    try with_reducible rfl
  try simp only [Act.put, o3_19_5, List.setIfInBounds_toArray, List.set_cons_zero, List.set_cons_succ]
  refine tk 6 o3_19_6 (v := ?_) ?_ ?_
  rotate_left
  · intro w hSw
    delta o3_19_6
    go_simp
    try with_reducible rfl
  try simp only [Act.put, o3_19_6, List.setIfInBounds_toArray, List.set_cons_zero, List.set_cons_succ]
  refine tk 7 o3_19_7 (v := ?_) ?_ ?_
  rotate_left
  · intro w hSw
    delta o3_19_7
    go_simp
    try with_reducible rfl
  try simp only [Act.put, o3_19_7, List.setIfInBounds_toArray, List.set_cons_zero, List.set_cons_succ]
  refine tk 8 o3_19_8 (v := ?_) ?_ ?_
  rotate_left
  · intro w hSw
    delta o3_19_8
    go_simp
    try with_reducible rfl
  try simp only [Act.put, o3_19_8, List.setIfInBounds_toArray, List.set_cons_zero, List.set_cons_succ]
  refine tk 9 o3_19_9 (v := ?_) ?_ ?_
  rotate_left
  · intro w hSw
    delta o3_19_9
    go_simp
    try with_reducible rfl
  try simp only [Act.put, o3_19_9, List.setIfInBounds_toArray, List.set_cons_zero, List.set_cons_succ]
  refine tk 10 o3_19_10 (v := ?_) ?_ ?_
  rotate_left
  · intro w hSw
    delta o3_19_10
    go_simp
    try with_reducible rfl
  try simp only [Act.put, o3_19_10, List.setIfInBounds_toArray, List.set_cons_zero, List.set_cons_succ]
  refine tk 11 o3_19_11 (v := ?_) ?_ ?_
  rotate_left
  · intro w hSw
    delta o3_19_11
    go_simp
    try with_reducible rfl
  try simp only [Act.put, o3_19_11, List.setIfInBounds_toArray, List.set_cons_zero, List.set_cons_succ]
  refine tk 12 o3_19_12 (v := ?_) ?_ ?_
  rotate_left
  · intro w hSw
    delta o3_19_12
    go_simp
    try with_reducible rfl
  try simp only [Act.put, o3_19_12, List.setIfInBounds_toArray, List.set_cons_zero, List.set_cons_succ]
  refine tk 13 o3_19_13 (v := ?_) ?_ ?_
  rotate_left
  · intro w hSw
    delta o3_19_13
    go_simp
    try with_reducible rfl
  try simp only [Act.put, o3_19_13, List.setIfInBounds_toArray, List.set_cons_zero, List.set_cons_succ]
  refine tk 14 o3_19_14 (v := ?_) ?_ ?_
  rotate_left
  · intro w hSw
    delta o3_19_14
    go_simp
    try with_reducible rfl
  try simp only [Act.put, o3_19_14, List.setIfInBounds_toArray, List.set_cons_zero, List.set_cons_succ]
  refine tk 15 o3_19_15 (v := ?_) ?_ ?_
  rotate_left
  · intro w hSw
    delta o3_19_15
    go_simp
    try with_reducible rfl
  try simp only [Act.put, o3_19_15, List.setIfInBounds_toArray, List.set_cons_zero, List.set_cons_succ]
  refine tk 16 o3_19_16 (v := ?_) ?_ ?_
  rotate_left
  · intro w hSw
    delta o3_19_16
    go_simp
    try with_reducible rfl
  try simp only [Act.put, o3_19_16, List.setIfInBounds_toArray, List.set_cons_zero, List.set_cons_succ]
  refine tk 17 o3_19_17 (v := ?_) ?_ ?_
  rotate_left
  · intro w hSw
    delta o3_19_17
    go_simp
    try with_reducible rfl
  try simp only [Act.put, o3_19_17, List.setIfInBounds_toArray, List.set_cons_zero, List.set_cons_succ]
  refine tk 18 o3_19_18 (v := ?_) ?_ ?_
  rotate_left
  · intro w hSw
    delta o3_19_18
    go_simp
    try with_reducible rfl
  try simp only [Act.put, o3_19_18, List.setIfInBounds_toArray, List.set_cons_zero, List.set_cons_succ]
  refine tk 19 o3_19_19 (v := ?_) ?_ ?_
  rotate_left
  · intro w hSw
    delta o3_19_19
    go_simp
    try with_reducible rfl
  try simp only [Act.put, o3_19_19, List.setIfInBounds_toArray, List.set_cons_zero, List.set_cons_succ]
  refine tk 21 o3_19_21 (v := ?_) ?_ ?_
  rotate_left
  · intro w hSw
    delta o3_19_21
    go_simp
    try with_reducible rfl
  try simp only [Act.put, o3_19_21, List.setIfInBounds_toArray, List.set_cons_zero, List.set_cons_succ]
  refine rd1 20 o3_19_20 (fun K hK => ?_)
  delta o3_19_20
  go_simp
  refine (of_c z1 z2 Xh6.out _).mono ?_
  rintro e W229 ⟨rfl, hBl⟩
  replace hL := lv_below hL hBl
  clear hBl
  refine hK.out _ _ (lv_sub (sk (sk (sk (sk (sk (sk sn)))))) hL) (fun hHeld2 => ?_)
  clear hK K hHeld
  have hHeld := hHeld2
  clear hHeld2
  try simp only [Act.put, o3_19_20, List.setIfInBounds_toArray, List.set_cons_zero, List.set_cons_succ]
  refine rd1 22 o3_19_22 (fun K hK => ?_)
  delta o3_19_22
  go_simp
  refine (refof_c z1 z2 Xh6.out _).mono ?_
  rintro e W230 ⟨rfl, hBl⟩
  replace hL := lv_below hL hBl
  clear hBl
  refine hK.out _ _ (lv_sub (sk (sk (sk (sk (sk (sk sn)))))) hL) (fun hHeld2 => ?_)
  clear hK K hHeld
  have hHeld := hHeld2
  clear hHeld2
  try simp only [Act.put, o3_19_22, List.setIfInBounds_toArray, List.set_cons_zero, List.set_cons_succ]
  refine tk 23 o3_19_23 (v := ?_) ?_ ?_
  rotate_left
  · intro w hSw
    delta o3_19_23
    go_simp
    try with_reducible rfl
  try simp only [Act.put, o3_19_23, List.setIfInBounds_toArray, List.set_cons_zero, List.set_cons_succ]
  refine tk 24 o3_19_24 (v := ?_) ?_ ?_
  rotate_left
  · intro w hSw
    delta o3_19_24
    go_simp
    try with_reducible rfl
  try simp only [Act.put, o3_19_24, List.setIfInBounds_toArray, List.set_cons_zero, List.set_cons_succ]
  refine tk 25 o3_19_25 (v := ?_) ?_ ?_
  rotate_left
  · intro w hSw
    delta o3_19_25
    go_simp
    try with_reducible rfl
  try simp only [Act.put, o3_19_25, List.setIfInBounds_toArray, List.set_cons_zero, List.set_cons_succ]
  refine tk 26 o3_19_26 (v := ?_) ?_ ?_
  rotate_left
  · intro w hSw
    obtain ⟨k0, k1, k2, k3⟩ := lv_cells4 hSw lm5
    delta o3_19_26
    go_simp
    try with_reducible rfl
  try simp only [Act.put, o3_19_26, List.setIfInBounds_toArray, List.set_cons_zero, List.set_cons_succ]
  refine tk 27 o3_19_27 (v := ?_) ?_ ?_
  rotate_left
  · intro w hSw
    obtain ⟨k0, k1, k2, k3⟩ := lv_cells4 hSw lm4
    delta o3_19_27
    go_simp
    try with_reducible rfl
  try simp only [Act.put, o3_19_27, List.setIfInBounds_toArray, List.set_cons_zero, List.set_cons_succ]
  refine tk 29 o3_19_29 (v := ?_) ?_ ?_
  rotate_left
  · intro w hSw
    obtain ⟨k0, k1, k2, k3⟩ := lv_cells4 hSw lm5
    delta o3_19_29
    go_simp
    try with_reducible rfl
  try simp only [Act.put, o3_19_29, List.setIfInBounds_toArray, List.set_cons_zero, List.set_cons_succ]
  refine tk 30 o3_19_30 (v := ?_) ?_ ?_
  rotate_left
  · intro w hSw
    obtain ⟨k0, k1, k2, k3⟩ := lv_cells4 hSw lm4
    delta o3_19_30
    go_simp
    try with_reducible rfl
  try simp only [Act.put, o3_19_30, List.setIfInBounds_toArray, List.set_cons_zero, List.set_cons_succ]
  refine rd1 28 o3_19_28 (fun K hK => ?_)
  delta o3_19_28
  go_simp
  refine (cmp_c ha hb Xh7.out _).mono ?_
  rintro e W231 ⟨rfl, hBl⟩
  replace hL := lv_below hL hBl
  clear hBl
  refine hK.out _ _ (lv_sub (sk (sk (sk (sk (sk (sk sn)))))) hL) (fun hHeld2 => ?_)
  clear hK K hHeld
  have hHeld := hHeld2
  clear hHeld2
  try simp only [Act.put, o3_19_28, List.setIfInBounds_toArray, List.set_cons_zero, List.set_cons_succ]
  refine rd1 31 o3_19_31 (fun K hK => ?_)
  delta o3_19_31
  go_simp
  refine (refcmpn ha hb Xh7.out _).mono ?_
  rintro e W232 ⟨rfl, hBl⟩
  replace hL := lv_below hL hBl
  clear hBl
  refine hK.out _ _ (lv_sub (sk (sk (sk (sk (sk (sk sn)))))) hL) (fun hHeld2 => ?_)
  clear hK K hHeld
  have hHeld := hHeld2
  clear hHeld2
  try simp only [Act.put, o3_19_31, List.setIfInBounds_toArray, List.set_cons_zero, List.set_cons_succ]
  refine tk 32 o3_19_32 (v := ?_) ?_ ?_
  rotate_left
  · intro w hSw
    delta o3_19_32
    go_simp
    try with_reducible rfl
  try simp only [Act.put, o3_19_32, List.setIfInBounds_toArray, List.set_cons_zero, List.set_cons_succ]
  refine tk 33 o3_19_33 (v := ?_) ?_ ?_
  rotate_left
  · intro w hSw
    delta o3_19_33
    go_simp
    try with_reducible rfl
  try simp only [Act.put, o3_19_33, List.setIfInBounds_toArray, List.set_cons_zero, List.set_cons_succ]
  refine tk 34 o3_19_34 (v := ?_) ?_ ?_
  rotate_left
  · intro w hSw
    delta o3_19_34
    go_simp
    try with_reducible rfl
  try simp only [Act.put, o3_19_34, List.setIfInBounds_toArray, List.set_cons_zero, List.set_cons_succ]
  refine tk 35 o3_19_35 (v := ?_) ?_ ?_
  rotate_left
  · intro w hSw
    obtain ⟨k0, k1, k2, k3⟩ := lv_cells4 hSw lm5
    delta o3_19_35
    go_simp
    try with_reducible rfl
  try simp only [Act.put, o3_19_35, List.setIfInBounds_toArray, List.set_cons_zero, List.set_cons_succ]
  refine tk 37 o3_19_37 (v := ?_) ?_ ?_
  rotate_left
  · intro w hSw
    obtain ⟨k0, k1, k2, k3⟩ := lv_cells4 hSw lm5
    delta o3_19_37
    go_simp
    try with_reducible rfl
  try simp only [Act.put, o3_19_37, List.setIfInBounds_toArray, List.set_cons_zero, List.set_cons_succ]
  refine rd1 36 o3_19_36 (fun K hK => ?_)
  delta o3_19_36
  go_simp
  refine (sign_c ha Xh8.out _).mono ?_
  rintro e W233 ⟨rfl, hBl⟩
  replace hL := lv_below hL hBl
  clear hBl
  refine hK.out _ _ (lv_sub (sk (sk (sk (sk (sk (sk sn)))))) hL) (fun hHeld2 => ?_)
  clear hK K hHeld
  have hHeld := hHeld2
  clear hHeld2
  try simp only [Act.put, o3_19_36, List.setIfInBounds_toArray, List.set_cons_zero, List.set_cons_succ]
  refine rd1 38 o3_19_38 (fun K hK => ?_)
  delta o3_19_38
  go_simp
  refine (refsignn ha Xh8.out _).mono ?_
  rintro e W234 ⟨rfl, hBl⟩
  replace hL := lv_below hL hBl
  clear hBl
  refine hK.out _ _ (lv_sub (sk (sk (sk (sk (sk (sk sn)))))) hL) (fun hHeld2 => ?_)
  clear hK K hHeld
  have hHeld := hHeld2
  clear hHeld2
  try simp only [Act.put, o3_19_38, List.setIfInBounds_toArray, List.set_cons_zero, List.set_cons_succ]
  refine tk 39 o3_19_39 (v := ?_) ?_ ?_
  rotate_left
  · intro w hSw
    delta o3_19_39
    go_simp
    try with_reducible rfl
  try simp only [Act.put, o3_19_39, List.setIfInBounds_toArray, List.set_cons_zero, List.set_cons_succ]
  refine tk 40 o3_19_40 (v := ?_) ?_ ?_
  rotate_left
  · intro w hSw
    delta o3_19_40
    go_simp
    try with_reducible rfl
  try simp only [Act.put, o3_19_40, List.setIfInBounds_toArray, List.set_cons_zero, List.set_cons_succ]
  refine tk 41 o3_19_41 (v := ?_) ?_ ?_
  rotate_left
  · intro w hSw
    delta o3_19_41
    go_simp
    try with_reducible rfl
  try simp only [Act.put, o3_19_41, List.setIfInBounds_toArray, List.set_cons_zero, List.set_cons_succ]
  refine rd1 42 o3_19_42 (fun K hK => ?_)
  delta o3_19_42
  go_simp
  refine (wakes_x _).mono ?_
  rintro e W235 ⟨rfl, hBl⟩
  replace hL := lv_below hL hBl
  clear hBl
  refine hK.out _ _ (lv_sub (sk (sk (sk (sk (sk (sk sn)))))) hL) (fun hHeld2 => ?_)
  clear hK K hHeld
  have hHeld := hHeld2
  clear hHeld2
  try simp only [Act.put, o3_19_42, List.setIfInBounds_toArray, List.set_cons_zero, List.set_cons_succ]
  refine tk 43 o3_19_43 (v := ?_) ?_ ?_
  rotate_left
  · intro w hSw
    delta o3_19_43
    go_simp
    try with_reducible rfl
  try simp only [Act.put, o3_19_43, List.setIfInBounds_toArray, List.set_cons_zero, List.set_cons_succ]
  refine tk 44 o3_19_44 (v := ?_) ?_ ?_
  rotate_left
  · intro w hSw
    delta o3_19_44
    go_simp
    try with_reducible rfl
  try simp only [Act.put, o3_19_44, List.setIfInBounds_toArray, List.set_cons_zero, List.set_cons_succ]
  refine wpAnyH_done (by kernel_rfl) ?_ _
  clear hHeld
  go_wp2_with fail
  go_ret
  exact ⟨rfl, hL.2.2.2⟩

set_option maxRecDepth 100000 in
set_option maxHeartbeats 4000000 in
theorem widetells_more (a b : Nat → Nat) (z : Int) (bb oo n cap : Nat) (h50 : (50 : Int) < n)   (w : World) :
    Calls Try.prog 3 #[.agg #[.int .u64 (a 0), .int .u64 (a 1), .int .u64 (a 2), .int .u64 (a 3)], .agg #[.int .u64 (b 0), .int .u64 (b 1), .int .u64 (b 2), .int .u64 (b 3)], .int .i64 z, .slice (some ⟨bb, oo, none⟩) n cap] w fun ee w' => ee = .returned (.bool true) ∧ Below w.heap.size w w' := by
  have hL := lv_nil w
  go_enter Try.func3, Try.ntmps3
  go_wp2_with fail
  obtain ⟨V1, B2, hV3, hB4, hL⟩ := lv_grow hL (Obj.cells #[.int .u64 (a 0), .int .u64 (a 1), .int .u64 (a 2), .int .u64 (a 3)] 24)
  rw [hV3]
  try rw [hB4]
  obtain ⟨V5, B6, hV7, hB8, hL⟩ := lv_grow hL (Obj.cells #[.int .u64 (b 0), .int .u64 (b 1), .int .u64 (b 2), .int .u64 (b 3)] 24)
  rw [hV7]
  have hs9 : B2 + 1 = B6 := by rw [← hB8, ← hV3, World.size_alloc, hB4]
  try rw [hs9]
  clear hs9
  clear hV3 hB4 hV7 hB8
  refine (wakes_x _).mono ?_
  rintro e W10 ⟨rfl, hB⟩
  replace hL := lv_below hL hB
  clear hB
  go_wp2_with fail
  go_ret
  exact ⟨rfl, hL.2.2.2⟩


end Go.Proofs.Ytecgclkjglkkbaa
