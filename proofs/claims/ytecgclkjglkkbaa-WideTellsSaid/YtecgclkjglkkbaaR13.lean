/- Contracts of Sum, the program's and the document's own: for every slice of wide numbers. -/
import Derived.Test.YtecgclkjglkkbaaR12
namespace Go.Proofs.Ytecgclkjglkkbaa
open Go Go.RowKit Go.Shelf
set_option linter.unusedSimpArgs false
set_option linter.unusedVariables false

def sumSt (L : Nat → Nat → Nat) : Nat → (Nat → Nat) × Bool
  | 0 => (fun _ => 0, false)
  | k + 1 => (addR (sumSt L k).1 (L k), (sumSt L k).2 || addO (sumSt L k).1 (L k))
theorem sumSt_words (L : Nat → Nat → Nat) (k : Nat) : Wds (sumSt L k).1 := by
  cases k with
  | zero => exact fun _ => by simp [sumSt]
  | succ k => exact addR_words _ _

/-- A slice of n wide numbers, as it lies in memory. -/
def SlA (w : World) (bb oo n : Nat) (L : Nat → Nat → Nat) : Prop := bb < w.heap.size ∧ ∀ k, k < n → Wds (L k) ∧ ∀ q, q < 4 → w.cell? ⟨bb, oo + k * 4 + q, none⟩ = some (.int .u64 (L k q))
theorem sla_get {w : World} {bb oo n : Nat} {L : Nat → Nat → Nat} (h : SlA w bb oo n L) {k : Nat} (hk : k < n) (W : World) (hB : Below w.heap.size w W) :
    W.cell? ⟨bb, oo + k * 4, none⟩ = some (.int .u64 (L k 0)) ∧ W.cell? ⟨bb, oo + k * 4 + 1, none⟩ = some (.int .u64 (L k 1)) ∧ W.cell? ⟨bb, oo + k * 4 + 2, none⟩ = some (.int .u64 (L k 2)) ∧ W.cell? ⟨bb, oo + k * 4 + 3, none⟩ = some (.int .u64 (L k 3)) :=
  ⟨(hB.cell (p := ⟨bb, oo + k * 4, none⟩) h.1).trans ((h.2 k hk).2 0 (by omega)), (hB.cell (p := ⟨bb, oo + k * 4 + 1, none⟩) h.1).trans ((h.2 k hk).2 1 (by omega)),
    (hB.cell (p := ⟨bb, oo + k * 4 + 2, none⟩) h.1).trans ((h.2 k hk).2 2 (by omega)), (hB.cell (p := ⟨bb, oo + k * 4 + 3, none⟩) h.1).trans ((h.2 k hk).2 3 (by omega))⟩
theorem sla_below {w W : World} {bb oo n : Nat} {L : Nat → Nat → Nat} (h : SlA w bb oo n L) (hB : Below w.heap.size w W) : SlA W bb oo n L :=
  ⟨Nat.lt_of_lt_of_le h.1 hB.size, fun k hk => ⟨(h.2 k hk).1, fun q hq => (hB.cell (p := ⟨bb, oo + k * 4 + q, none⟩) h.1).trans ((h.2 k hk).2 q hq)⟩⟩

theorem addn {a b r : Nat → Nat} {o : Bool} (ha : Wds a) (hb : Wds b) (h : addR a b = r) (h2 : addO a b = o) (w : World) : Calls Try.prog 10 #[.agg #[.int .u64 (a 0), .int .u64 (a 1), .int .u64 (a 2), .int .u64 (a 3)], .agg #[.int .u64 (b 0), .int .u64 (b 1), .int .u64 (b 2), .int .u64 (b 3)]] w fun ee w' => ee = .returned (.tuple #[.agg #[.int .u64 (r 0), .int .u64 (r 1), .int .u64 (r 2), .int .u64 (r 3)], .bool o]) ∧ Below w.heap.size w w' := by subst h h2; exact add_x a b ha hb w
theorem refaddn {a b r : Nat → Nat} {o : Bool} (ha : Wds a) (hb : Wds b) (h : addR a b = r) (h2 : addO a b = o) (w : World) : Calls Try.prog 11 #[.agg #[.int .u64 (a 0), .int .u64 (a 1), .int .u64 (a 2), .int .u64 (a 3)], .agg #[.int .u64 (b 0), .int .u64 (b 1), .int .u64 (b 2), .int .u64 (b 3)]] w fun ee w' => ee = .returned (.tuple #[.agg #[.int .u64 (r 0), .int .u64 (r 1), .int .u64 (r 2), .int .u64 (r 3)], .bool o]) ∧ Below w.heap.size w w' := by subst h h2; exact refadd_x a b ha hb w

set_option maxRecDepth 100000 in
set_option maxHeartbeats 4000000 in
theorem sum_x (L : Nat → Nat → Nat) (bb oo n cap : Nat) (hcap : n ≤ cap) (hn : cap ≤ maxLen) (w : World) (hS : SlA w bb oo n L) : Calls Try.prog 18 #[.slice (some ⟨bb, oo, none⟩) n cap] w fun ee w' => ee = .returned (.tuple #[.agg #[.int .u64 ((sumSt L n).1 0), .int .u64 ((sumSt L n).1 1), .int .u64 ((sumSt L n).1 2), .int .u64 ((sumSt L n).1 3)], .bool (sumSt L n).2]) ∧ Below w.heap.size w w' := by
  unfold maxLen at hn
  have hL := lv_nil w
  have HS := Lib.hid hS
  clear hS
  go_enter Try.func18, Try.ntmps18
  go_wp2_with fail
  obtain ⟨V1, B2, hV3, hB4, hL⟩ := lv_grow hL (Obj.cells #[.int .u64 0, .int .u64 0, .int .u64 0, .int .u64 0] 24)
  rw [hV3]
  try rw [hB4]
  obtain ⟨V5, B6, hV7, hB8, hL⟩ := lv_grow hL (Obj.cells #[.int .u64 0, .int .u64 0, .int .u64 0, .int .u64 0] 24)
  rw [hV7]
  have hs9 : B2 + 1 = B6 := by rw [← hB8, ← hV3, World.size_alloc, hB4]
  try rw [hs9]
  clear hs9
  clear hV3 hB4 hV7 hB8
  go_loopw [5, 12] (fun v5 v12 wr => ∃ k : Nat, k ≤ n ∧ v12 = .int .i64 k ∧ v5 = .bool (sumSt L k).2 ∧ Lv w [(B6, Obj.cells #[.int .u64 (((sumSt L k).1) 0), .int .u64 (((sumSt L k).1) 1), .int .u64 (((sumSt L k).1) 2), .int .u64 (((sumSt L k).1) 3)] 24 (0, 0)), (B2, Obj.cells #[.int .u64 0, .int .u64 0, .int .u64 0, .int .u64 0] 24 (0, 0))] wr) (fun _ v12 _ => n - (intOf v12).toNat)
  case atStart => exact ⟨0, by omega, rfl, rfl, hL⟩
  case round =>
    clear hL
    obtain ⟨k, hk, rfl, rfl, hL⟩ := hrel
    by_cases hlt : k < n
    · have hki : (k : Int) < (n : Int) := by omega
      have hk0 : (0 : Int) ≤ (k : Int) := by omega
      have hx := sumSt_words L k
      have hy := (HS.out.2 k hlt).1
      have H1 : Hid ((sumSt L (k + 1)).1 = addR (sumSt L k).1 (L k)) := Lib.hid rfl
      have H2 : Hid ((sumSt L (k + 1)).2 = ((sumSt L k).2 || addO (sumSt L k).1 (L k))) := Lib.hid rfl
      obtain ⟨y, hyy⟩ : ∃ y, L k = y := ⟨_, rfl⟩
      have HX := Lib.hid (sla_get HS.out hlt)
      rw [hyy] at HX hy H1 H2
      clear hyy
      obtain ⟨x, hxx⟩ : ∃ x, (sumSt L k).1 = x := ⟨_, rfl⟩
      rw [hxx] at hx H1 H2 hL
      clear hxx
      obtain ⟨q, hqq⟩ : ∃ x, (sumSt L k).2 = x := ⟨_, rfl⟩
      rw [hqq] at H2 ⊢
      clear hqq
      have XA : Hid (addR x y = (sumSt L (k + 1)).1) := Lib.hid H1.out.symm
      obtain ⟨r, hr⟩ : ∃ r, (sumSt L (k + 1)).1 = r := ⟨_, rfl⟩
      rw [hr] at XA
      have HR := Lib.hid hr
      clear H1 hr
      obtain ⟨o, ho⟩ : ∃ o, addO x y = o := ⟨_, rfl⟩
      rw [ho] at H2
      have XO := Lib.hid ho
      clear ho
      cases q with
      | true =>
        obtain ⟨q10, q11, q12, q13⟩ := HX.out _ hL.2.2.2
        obtain ⟨q14, q15, q16, q17⟩ := lv_cells4 hL lm0
        have l18 : B6 < (wr).heap.size := lv_lt hL lm0
        have l19 : ¬ B6 = (wr).heap.size := Nat.ne_of_lt l18
        have l20 : ¬ (wr).heap.size = B6 := fun h => l19 h.symm
        go_wp2_with fail
        clear q10 q11 q12 q13 q14 q15 q16 q17 l18 l19 l20
        obtain ⟨V21, B22, hV23, hB24, hL⟩ := lv_grow hL (Obj.cells #[.int .u64 (y 0), .int .u64 (y 1), .int .u64 (y 2), .int .u64 (y 3)] 24)
        rw [hV23]
        try rw [hB24]
        clear hV23 hB24
        refine (addn hx hy XA.out XO.out _).mono ?_
        rintro e W25 ⟨rfl, hB⟩
        replace hL := lv_below hL hB
        clear hB
        obtain ⟨q26, q27, q28, q29⟩ := lv_cells4 hL lm1
        have z30 := lv_frozen hL lm1 0
        have z31 := lv_frozen hL lm1 1
        have z32 := lv_frozen hL lm1 2
        have z33 := lv_frozen hL lm1 3
        have l34 : B6 < (W25).heap.size := lv_lt hL lm1
        have l35 : ¬ B6 = (W25).heap.size := Nat.ne_of_lt l34
        have l36 : ¬ (W25).heap.size = B6 := fun h => l35 h.symm
        go_wp2_with fail
        clear q26 q27 q28 q29 z30 z31 z32 z33 l34 l35 l36
        obtain ⟨V37, hV38, hL⟩ : ∃ V, (World.setCell (World.setCell (World.setCell (World.setCell W25 ⟨B6, 0, none⟩ (.int .u64 (r 0))) ⟨B6, 1, none⟩ (.int .u64 (r 1))) ⟨B6, 2, none⟩ (.int .u64 (r 2))) ⟨B6, 3, none⟩ (.int .u64 (r 3))) = V ∧ Lv w [(B22, Obj.cells #[.int .u64 (y 0), .int .u64 (y 1), .int .u64 (y 2), .int .u64 (y 3)] 24 (0, 0)), (B6, Obj.cells #[.int .u64 (r 0), .int .u64 (r 1), .int .u64 (r 2), .int .u64 (r 3)] 24 (0, 0)), (B2, Obj.cells #[.int .u64 0, .int .u64 0, .int .u64 0, .int .u64 0] 24 (0, 0))] V := ⟨_, rfl, lv_store4 [(B22, Obj.cells #[.int .u64 (y 0), .int .u64 (y 1), .int .u64 (y 2), .int .u64 (y 3)] 24 (0, 0))] hL _ _ _ _⟩
        rw [hV38]
        try rw [show (W25).heap.size = (V37).heap.size by rw [← hV38]; simp [World.setCell]]
        obtain ⟨V39, B40, hV41, hB42, hL⟩ := lv_grow hL (Obj.cells #[.int .u64 (r 0), .int .u64 (r 1), .int .u64 (r 2), .int .u64 (r 3)] 24)
        rw [hV41]
        try rw [hB42]
        clear hV38 hV41 hB42
        replace hL := lv_sub (sd (sd (sk (sk sn)))) hL
        go_roundw
        case rel => exact ⟨k + 1, by omega, by go_num, by (rw [H2.out]; first | rfl | simp), by rw [HR.out]; exact hL⟩
        case measure => simp [intOf]; omega
      | false =>
        obtain ⟨q10, q11, q12, q13⟩ := HX.out _ hL.2.2.2
        obtain ⟨q14, q15, q16, q17⟩ := lv_cells4 hL lm0
        have l18 : B6 < (wr).heap.size := lv_lt hL lm0
        have l19 : ¬ B6 = (wr).heap.size := Nat.ne_of_lt l18
        have l20 : ¬ (wr).heap.size = B6 := fun h => l19 h.symm
        go_wp2_with fail
        clear q10 q11 q12 q13 q14 q15 q16 q17 l18 l19 l20
        obtain ⟨V21, B22, hV23, hB24, hL⟩ := lv_grow hL (Obj.cells #[.int .u64 (y 0), .int .u64 (y 1), .int .u64 (y 2), .int .u64 (y 3)] 24)
        rw [hV23]
        try rw [hB24]
        clear hV23 hB24
        refine (addn hx hy XA.out XO.out _).mono ?_
        rintro e W25 ⟨rfl, hB⟩
        replace hL := lv_below hL hB
        clear hB
        obtain ⟨q26, q27, q28, q29⟩ := lv_cells4 hL lm1
        have z30 := lv_frozen hL lm1 0
        have z31 := lv_frozen hL lm1 1
        have z32 := lv_frozen hL lm1 2
        have z33 := lv_frozen hL lm1 3
        have l34 : B6 < (W25).heap.size := lv_lt hL lm1
        have l35 : ¬ B6 = (W25).heap.size := Nat.ne_of_lt l34
        have l36 : ¬ (W25).heap.size = B6 := fun h => l35 h.symm
        go_wp2_with fail
        clear q26 q27 q28 q29 z30 z31 z32 z33 l34 l35 l36
        obtain ⟨V37, hV38, hL⟩ : ∃ V, (World.setCell (World.setCell (World.setCell (World.setCell W25 ⟨B6, 0, none⟩ (.int .u64 (r 0))) ⟨B6, 1, none⟩ (.int .u64 (r 1))) ⟨B6, 2, none⟩ (.int .u64 (r 2))) ⟨B6, 3, none⟩ (.int .u64 (r 3))) = V ∧ Lv w [(B22, Obj.cells #[.int .u64 (y 0), .int .u64 (y 1), .int .u64 (y 2), .int .u64 (y 3)] 24 (0, 0)), (B6, Obj.cells #[.int .u64 (r 0), .int .u64 (r 1), .int .u64 (r 2), .int .u64 (r 3)] 24 (0, 0)), (B2, Obj.cells #[.int .u64 0, .int .u64 0, .int .u64 0, .int .u64 0] 24 (0, 0))] V := ⟨_, rfl, lv_store4 [(B22, Obj.cells #[.int .u64 (y 0), .int .u64 (y 1), .int .u64 (y 2), .int .u64 (y 3)] 24 (0, 0))] hL _ _ _ _⟩
        rw [hV38]
        try rw [show (W25).heap.size = (V37).heap.size by rw [← hV38]; simp [World.setCell]]
        obtain ⟨V39, B40, hV41, hB42, hL⟩ := lv_grow hL (Obj.cells #[.int .u64 (r 0), .int .u64 (r 1), .int .u64 (r 2), .int .u64 (r 3)] 24)
        rw [hV41]
        try rw [hB42]
        clear hV38 hV41 hB42
        replace hL := lv_sub (sd (sd (sk (sk sn)))) hL
        go_roundw
        case rel => exact ⟨k + 1, by omega, by go_num, by (rw [H2.out]; first | rfl | simp), by rw [HR.out]; exact hL⟩
        case measure => simp [intOf]; omega
    · obtain rfl : k = n := by omega
      obtain ⟨q210, q211, q212, q213⟩ := lv_cells4 hL lm0
      obtain ⟨q214, q215, q216, q217⟩ := lv_cells4 hL lm1
      have z218 := lv_frozen hL lm1 0
      have z219 := lv_frozen hL lm1 1
      have z220 := lv_frozen hL lm1 2
      have z221 := lv_frozen hL lm1 3
      go_wp2_with fail
      clear q210 q211 q212 q213 q214 q215 q216 q217 z218 z219 z220 z221
      obtain ⟨V222, hV223, hL⟩ : ∃ V, (World.setCell (World.setCell (World.setCell (World.setCell wr ⟨B2, 0, none⟩ (.int .u64 (((sumSt L k).1) 0))) ⟨B2, 1, none⟩ (.int .u64 (((sumSt L k).1) 1))) ⟨B2, 2, none⟩ (.int .u64 (((sumSt L k).1) 2))) ⟨B2, 3, none⟩ (.int .u64 (((sumSt L k).1) 3))) = V ∧ Lv w [(B6, Obj.cells #[.int .u64 (((sumSt L k).1) 0), .int .u64 (((sumSt L k).1) 1), .int .u64 (((sumSt L k).1) 2), .int .u64 (((sumSt L k).1) 3)] 24 (0, 0)), (B2, Obj.cells #[.int .u64 (((sumSt L k).1) 0), .int .u64 (((sumSt L k).1) 1), .int .u64 (((sumSt L k).1) 2), .int .u64 (((sumSt L k).1) 3)] 24 (0, 0))] V := ⟨_, rfl, lv_store4 [(B6, Obj.cells #[.int .u64 (((sumSt L k).1) 0), .int .u64 (((sumSt L k).1) 1), .int .u64 (((sumSt L k).1) 2), .int .u64 (((sumSt L k).1) 3)] 24 (0, 0))] hL _ _ _ _⟩
      rw [hV223]
      clear hV223
      obtain ⟨k224, k225, k226, k227⟩ := lv_cells4 hL lm1
      refine bodyPost_ret (v := .tuple #[.agg #[.int .u64 (((sumSt L k).1) 0), .int .u64 (((sumSt L k).1) 1), .int .u64 (((sumSt L k).1) 2), .int .u64 (((sumSt L k).1) 3)], .bool (sumSt L k).2]) (by simp [results, Try.results18, go_sem, k224, k225, k226, k227]) rfl ⟨rfl, hL.2.2.2⟩

def o19_6_0 : Oper := { dst := some 16, op := Go.Op.load 24 (Go.Operand.tmp 4), type := 24, pos := "ref.go:169", after := #[], guard := none }
def o19_6_1 : Oper := { dst := some 17, op := Go.Op.move (Go.Operand.tmp 0), type := 25, pos := "ref.go:169", after := #[], guard := none }
def o19_6_2 : Oper := { dst := some 18, op := Go.Op.move (Go.Operand.tmp 6), type := 3, pos := "ref.go:169", after := #[], guard := none }
def o19_6_3 : Oper := { dst := some 19, op := Go.Op.indexAddr 25 (Go.Operand.tmp 17) (Go.Operand.tmp 18), type := 0, pos := "ref.go:169", after := #[{ on := 1, ground := Go.Ground.data }, { on := 2, ground := Go.Ground.data }], guard := none }
def o19_6_4 : Oper := { dst := some 20, op := Go.Op.load 24 (Go.Operand.tmp 19), type := 24, pos := "ref.go:169", after := #[{ on := 3, ground := Go.Ground.data }], guard := none }
def o19_6_5 : Oper := { dst := some 21, op := Go.Op.call { callee := Go.Callee.value (Go.Operand.func 11), args := #[Go.Operand.tmp 16, Go.Operand.tmp 20], argTypes := #[24, 24] }, type := 27, pos := "ref.go:169", after := #[{ on := 0, ground := Go.Ground.data }, { on := 4, ground := Go.Ground.data }], guard := none }
def o19_6_6 : Oper := { dst := some 15, op := Go.Op.move (Go.Operand.tmp 21), type := 27, pos := "ref.go:169", after := #[{ on := 5, ground := Go.Ground.data }], guard := none }
def o19_6_7 : Oper := { dst := some 22, op := Go.Op.extract (Go.Operand.tmp 15) 0, type := 24, pos := "ref.go:169", after := #[{ on := 6, ground := Go.Ground.data }], guard := none }
def o19_6_8 : Oper := { dst := some 23, op := Go.Op.extract (Go.Operand.tmp 15) 1, type := 4, pos := "ref.go:169", after := #[{ on := 6, ground := Go.Ground.data }, { on := 10, ground := Go.Ground.gcOnly Go.Departure.lateStores }], guard := none }
def o19_6_9 : Oper := { dst := some 7, op := Go.Op.alloc 24, type := 0, pos := "ref.go:169", after := #[], guard := none }
def o19_6_10 : Oper := { dst := none, op := Go.Op.store 24 (Go.Operand.tmp 7) (Go.Operand.tmp 22), type := 0, pos := "ref.go:169", after := #[{ on := 9, ground := Go.Ground.data }, { on := 7, ground := Go.Ground.data }, { on := 5, ground := Go.Ground.chain }, { on := 0, ground := Go.Ground.phase }, { on := 1, ground := Go.Ground.phase }, { on := 2, ground := Go.Ground.phase }, { on := 3, ground := Go.Ground.phase }, { on := 4, ground := Go.Ground.phase }, { on := 5, ground := Go.Ground.phase }, { on := 6, ground := Go.Ground.phase }, { on := 7, ground := Go.Ground.phase }, { on := 8, ground := Go.Ground.textOnly Go.Departure.lateStores }, { on := 9, ground := Go.Ground.phase }], guard := none }
def o19_6_11 : Oper := { dst := some 8, op := Go.Op.assign (Go.Operand.tmp 23), type := 4, pos := "ref.go:169", after := #[{ on := 8, ground := Go.Ground.data }, { on := 10, ground := Go.Ground.chain }, { on := 0, ground := Go.Ground.phase }, { on := 1, ground := Go.Ground.phase }, { on := 2, ground := Go.Ground.phase }, { on := 3, ground := Go.Ground.phase }, { on := 4, ground := Go.Ground.phase }, { on := 5, ground := Go.Ground.phase }, { on := 6, ground := Go.Ground.phase }, { on := 7, ground := Go.Ground.phase }, { on := 8, ground := Go.Ground.phase }, { on := 9, ground := Go.Ground.phase }, { on := 10, ground := Go.Ground.phase }], guard := none }
attribute [local go_sem] o19_6_0 o19_6_1 o19_6_2 o19_6_3 o19_6_4 o19_6_5 o19_6_6 o19_6_7 o19_6_8 o19_6_9 o19_6_10 o19_6_11
set_option maxRecDepth 100000 in
set_option maxHeartbeats 4000000 in
theorem refsum_x (L : Nat → Nat → Nat) (bb oo n cap : Nat) (hcap : n ≤ cap) (hn : cap ≤ maxLen) (w : World) (hS : SlA w bb oo n L) : Calls Try.prog 19 #[.slice (some ⟨bb, oo, none⟩) n cap] w fun ee w' => ee = .returned (.tuple #[.agg #[.int .u64 ((sumSt L n).1 0), .int .u64 ((sumSt L n).1 1), .int .u64 ((sumSt L n).1 2), .int .u64 ((sumSt L n).1 3)], .bool (sumSt L n).2]) ∧ Below w.heap.size w w' := by
  unfold maxLen at hn
  have hL := lv_nil w
  have HS := Lib.hid hS
  clear hS
  go_enter Try.func19, Try.ntmps19
  go_wp2_with fail
  obtain ⟨V1, B2, hV3, hB4, hL⟩ := lv_grow hL (Obj.cells #[.int .u64 0, .int .u64 0, .int .u64 0, .int .u64 0] 24)
  rw [hV3]
  try rw [hB4]
  obtain ⟨V5, B6, hV7, hB8, hL⟩ := lv_grow hL (Obj.cells #[.int .u64 0, .int .u64 0, .int .u64 0, .int .u64 0] 24)
  rw [hV7]
  have hs9 : B2 + 1 = B6 := by rw [← hB8, ← hV3, World.size_alloc, hB4]
  try rw [hs9]
  clear hs9
  clear hV3 hB4 hV7 hB8
  go_loopw [5, 6] (fun v5 v6 wr => ∃ k : Nat, k ≤ n ∧ v6 = .int .i64 k ∧ v5 = .bool (sumSt L k).2 ∧ Lv w [(B6, Obj.cells #[.int .u64 (((sumSt L k).1) 0), .int .u64 (((sumSt L k).1) 1), .int .u64 (((sumSt L k).1) 2), .int .u64 (((sumSt L k).1) 3)] 24 (0, 0)), (B2, Obj.cells #[.int .u64 0, .int .u64 0, .int .u64 0, .int .u64 0] 24 (0, 0))] wr) (fun _ v6 _ => n - (intOf v6).toNat)
  case atStart => exact ⟨0, by omega, rfl, rfl, hL⟩
  case round =>
    clear hL
    obtain ⟨k, hk, rfl, rfl, hL⟩ := hrel
    by_cases hlt : k < n
    · have hki : (k : Int) < (n : Int) := by omega
      have hk0 : (0 : Int) ≤ (k : Int) := by omega
      have hx := sumSt_words L k
      have hy := (HS.out.2 k hlt).1
      have H1 : Hid ((sumSt L (k + 1)).1 = addR (sumSt L k).1 (L k)) := Lib.hid rfl
      have H2 : Hid ((sumSt L (k + 1)).2 = ((sumSt L k).2 || addO (sumSt L k).1 (L k))) := Lib.hid rfl
      obtain ⟨y, hyy⟩ : ∃ y, L k = y := ⟨_, rfl⟩
      have HX := Lib.hid (sla_get HS.out hlt)
      rw [hyy] at HX hy H1 H2
      clear hyy
      obtain ⟨x, hxx⟩ : ∃ x, (sumSt L k).1 = x := ⟨_, rfl⟩
      rw [hxx] at hx H1 H2 hL
      clear hxx
      obtain ⟨q, hqq⟩ : ∃ x, (sumSt L k).2 = x := ⟨_, rfl⟩
      rw [hqq] at H2 ⊢
      clear hqq
      have XA : Hid (addR x y = (sumSt L (k + 1)).1) := Lib.hid H1.out.symm
      obtain ⟨r, hr⟩ : ∃ r, (sumSt L (k + 1)).1 = r := ⟨_, rfl⟩
      rw [hr] at XA
      have HR := Lib.hid hr
      clear H1 hr
      obtain ⟨o, ho⟩ : ∃ o, addO x y = o := ⟨_, rfl⟩
      rw [ho] at H2
      have XO := Lib.hid ho
      clear ho
      cases q with
      | true =>
        go_wp2_with fail
        refine Code.wp_mono (Q := (fun ee aa ww => ee = Exit.normal ∧ ∃ N9 : Nat, aa = { tmps := #[.slice (some ⟨bb, oo, none⟩) n cap, undef, .pointer (some ⟨B2, 0, none⟩), .bool false, .pointer (some ⟨B6, 0, none⟩), .bool true, .int .i64 k, .pointer (some ⟨N9, 0, none⟩), .bool o, .int .i64 k, .slice (some ⟨bb, oo, none⟩) n cap, .int .i64 n, .bool true, u13, u14, .tuple #[.agg #[.int .u64 (r 0), .int .u64 (r 1), .int .u64 (r 2), .int .u64 (r 3)], .bool o], .agg #[.int .u64 (x 0), .int .u64 (x 1), .int .u64 (x 2), .int .u64 (x 3)], .slice (some ⟨bb, oo, none⟩) n cap, .int .i64 k, .pointer (some ⟨bb, oo + k * 4, none⟩), .agg #[.int .u64 (y 0), .int .u64 (y 1), .int .u64 (y 2), .int .u64 (y 3)], .tuple #[.agg #[.int .u64 (r 0), .int .u64 (r 1), .int .u64 (r 2), .int .u64 (r 3)], .bool o], .agg #[.int .u64 (r 0), .int .u64 (r 1), .int .u64 (r 2), .int .u64 (r 3)], .bool o, u24, u25, u26, u27, u28, undef, undef], defers := [] } ∧ Lv w [(N9, Obj.cells #[.int .u64 (r 0), .int .u64 (r 1), .int .u64 (r 2), .int .u64 (r 3)] 24 (0, 0)), (B6, Obj.cells #[.int .u64 (x 0), .int .u64 (x 1), .int .u64 (x 2), .int .u64 (x 3)] 24 (0, 0)), (B2, Obj.cells #[.int .u64 0, .int .u64 0, .int .u64 0, .int .u64 0] 24 (0, 0))] ww)) ?_ ?_
        rotate_left
        · refine wp_region_noPanic ?_
          refine wp_region_held_drew (S := fun W' => Lv w [(B6, Obj.cells #[.int .u64 (x 0), .int .u64 (x 1), .int .u64 (x 2), .int .u64 (x 3)] 24 (0, 0)), (B2, Obj.cells #[.int .u64 0, .int .u64 0, .int .u64 0, .int .u64 0] 24 (0, 0))] W') (by kernel_rfl) (lv_drew (lv_sub (sk (sk sn)) hL)) (fun hHeld => ?_)
          replace hL := lv_drew hL
          obtain ⟨D10, hD11⟩ : ∃ W0, World.drew wr = W0 := ⟨_, rfl⟩
          rw [hD11] at hHeld hL ⊢
          clear hD11
          refine tk 0 o19_6_0 (v := ?_) ?_ ?_
          rotate_left
          · intro w hSw
            obtain ⟨k0, k1, k2, k3⟩ := lv_cells4 hSw lm0
            delta o19_6_0
            go_simp
            try with_reducible rfl
          try simp only [Act.put, o19_6_0, List.setIfInBounds_toArray, List.set_cons_zero, List.set_cons_succ]
          refine tk 1 o19_6_1 (v := ?_) ?_ ?_
          rotate_left
          · intro w hSw
            delta o19_6_1
            go_simp
            try with_reducible rfl
          try simp only [Act.put, o19_6_1, List.setIfInBounds_toArray, List.set_cons_zero, List.set_cons_succ]
          refine tk 2 o19_6_2 (v := ?_) ?_ ?_
          rotate_left
          · intro w hSw
            delta o19_6_2
            go_simp
            try with_reducible rfl
          try simp only [Act.put, o19_6_2, List.setIfInBounds_toArray, List.set_cons_zero, List.set_cons_succ]
          refine tk 3 o19_6_3 (v := ?_) ?_ ?_
          rotate_left
          · intro w hSw
            delta o19_6_3
            go_simp
            try with_reducible rfl
          try simp only [Act.put, o19_6_3, List.setIfInBounds_toArray, List.set_cons_zero, List.set_cons_succ]
          refine tk 4 o19_6_4 (v := ?_) ?_ ?_
          rotate_left
          · intro w hSw
            obtain ⟨k0, k1, k2, k3⟩ := HX.out _ hSw.2.2.2
            delta o19_6_4
            go_simp
            try with_reducible rfl
          try simp only [Act.put, o19_6_4, List.setIfInBounds_toArray, List.set_cons_zero, List.set_cons_succ]
          refine rd2 5 9 o19_6_5 o19_6_9 (fun K hK => ?_) (fun K hK => ?_)
          · skip
            delta o19_6_5
            go_simp
            refine (refaddn hx hy XA.out XO.out _).mono ?_
            rintro e W12 ⟨rfl, hBl⟩
            replace hL := lv_below hL hBl
            clear hBl
            refine hK.out _ _ (lv_sub (sk (sk sn)) hL) (fun hHeld2 => ?_)
            clear hK K hHeld
            have hHeld := hHeld2
            clear hHeld2
            try simp only [Act.put, o19_6_5, List.setIfInBounds_toArray, List.set_cons_zero, List.set_cons_succ]
            refine tk 6 o19_6_6 (v := ?_) ?_ ?_
            rotate_left
            · intro w hSw
              delta o19_6_6
              go_simp
              try with_reducible rfl
            try simp only [Act.put, o19_6_6, List.setIfInBounds_toArray, List.set_cons_zero, List.set_cons_succ]
            refine tk 7 o19_6_7 (v := ?_) ?_ ?_
            rotate_left
            · intro w hSw
              delta o19_6_7
              go_simp
              try with_reducible rfl
            try simp only [Act.put, o19_6_7, List.setIfInBounds_toArray, List.set_cons_zero, List.set_cons_succ]
            refine tk 8 o19_6_8 (v := ?_) ?_ ?_
            rotate_left
            · intro w hSw
              delta o19_6_8
              go_simp
              try with_reducible rfl
            try simp only [Act.put, o19_6_8, List.setIfInBounds_toArray, List.set_cons_zero, List.set_cons_succ]
            refine rd1 9 o19_6_9 (fun K hK => ?_)
            delta o19_6_9
            go_simp
            obtain ⟨V13, B14, hVx, hBx, hL2⟩ := lv_grow hL (Obj.cells #[.int .u64 0, .int .u64 0, .int .u64 0, .int .u64 0] 24)
            rw [hVx, hBx]
            clear hVx hBx hL
            have hL := hL2
            clear hL2
            refine hK.out _ _ (lv_sub (sd (sk (sk sn))) hL) (fun hHeld2 => ?_)
            clear hK K hHeld
            have hHeld := hHeld2
            clear hHeld2
            try simp only [Act.put, o19_6_9, List.setIfInBounds_toArray, List.set_cons_zero, List.set_cons_succ]
            refine rd1 10 o19_6_10 (fun K hK => ?_)
            obtain ⟨k0, k1, k2, k3⟩ := lv_cells4 hL lm0
            have z0 := lv_frozen hL lm0 0
            have z1 := lv_frozen hL lm0 1
            have z2 := lv_frozen hL lm0 2
            have z3 := lv_frozen hL lm0 3
            delta o19_6_10
            go_simp
            clear k0 z0 k1 z1 k2 z2 k3 z3
            obtain ⟨V15, hVx, hL2⟩ : ∃ V, (World.setCell (World.setCell (World.setCell (World.setCell V13 ⟨B14, 0, none⟩ (.int .u64 (r 0))) ⟨B14, 1, none⟩ (.int .u64 (r 1))) ⟨B14, 2, none⟩ (.int .u64 (r 2))) ⟨B14, 3, none⟩ (.int .u64 (r 3))) = V ∧ Lv w [(B14, Obj.cells #[.int .u64 (r 0), .int .u64 (r 1), .int .u64 (r 2), .int .u64 (r 3)] 24 (0, 0)), (B6, Obj.cells #[.int .u64 (x 0), .int .u64 (x 1), .int .u64 (x 2), .int .u64 (x 3)] 24 (0, 0)), (B2, Obj.cells #[.int .u64 0, .int .u64 0, .int .u64 0, .int .u64 0] 24 (0, 0))] V := ⟨_, rfl, lv_store4 [] hL _ _ _ _⟩
            rw [hVx]
            clear hVx hL
            have hL := hL2
            clear hL2
            refine hK.out _ _ (lv_sub (sd (sk (sk sn))) hL) (fun hHeld2 => ?_)
            clear hK K hHeld
            have hHeld := hHeld2
            clear hHeld2
            try simp only [Act.put, o19_6_10, List.setIfInBounds_toArray, List.set_cons_zero, List.set_cons_succ]
            refine tk 11 o19_6_11 (v := ?_) ?_ ?_
            rotate_left
            · intro w hSw
              delta o19_6_11
              go_simp
              try with_reducible rfl
            try simp only [Act.put, o19_6_11, List.setIfInBounds_toArray, List.set_cons_zero, List.set_cons_succ]
            refine wpAnyH_done (by kernel_rfl) ?_ _
            refine NoPanic.normal ?_
            exact ⟨rfl, B14, rfl, hL⟩
          · skip
            delta o19_6_9
            go_simp
            obtain ⟨V16, B17, hVx, hBx, hL2⟩ := lv_grow hL (Obj.cells #[.int .u64 0, .int .u64 0, .int .u64 0, .int .u64 0] 24)
            rw [hVx, hBx]
            clear hVx hBx hL
            have hL := hL2
            clear hL2
            refine hK.out _ _ (lv_sub (sd (sk (sk sn))) hL) (fun hHeld2 => ?_)
            clear hK K hHeld
            have hHeld := hHeld2
            clear hHeld2
            try simp only [Act.put, o19_6_9, List.setIfInBounds_toArray, List.set_cons_zero, List.set_cons_succ]
            refine rd1 5 o19_6_5 (fun K hK => ?_)
            delta o19_6_5
            go_simp
            refine (refaddn hx hy XA.out XO.out _).mono ?_
            rintro e W18 ⟨rfl, hBl⟩
            replace hL := lv_below hL hBl
            clear hBl
            refine hK.out _ _ (lv_sub (sd (sk (sk sn))) hL) (fun hHeld2 => ?_)
            clear hK K hHeld
            have hHeld := hHeld2
            clear hHeld2
            try simp only [Act.put, o19_6_5, List.setIfInBounds_toArray, List.set_cons_zero, List.set_cons_succ]
            refine tk 6 o19_6_6 (v := ?_) ?_ ?_
            rotate_left
            · intro w hSw
              delta o19_6_6
              go_simp
              try with_reducible rfl
            try simp only [Act.put, o19_6_6, List.setIfInBounds_toArray, List.set_cons_zero, List.set_cons_succ]
            refine tk 7 o19_6_7 (v := ?_) ?_ ?_
            rotate_left
            · intro w hSw
              delta o19_6_7
              go_simp
              try with_reducible rfl
            try simp only [Act.put, o19_6_7, List.setIfInBounds_toArray, List.set_cons_zero, List.set_cons_succ]
            refine tk 8 o19_6_8 (v := ?_) ?_ ?_
            rotate_left
            · intro w hSw
              delta o19_6_8
              go_simp
              try with_reducible rfl
            try simp only [Act.put, o19_6_8, List.setIfInBounds_toArray, List.set_cons_zero, List.set_cons_succ]
            refine rd1 10 o19_6_10 (fun K hK => ?_)
            obtain ⟨k0, k1, k2, k3⟩ := lv_cells4 hL lm0
            have z0 := lv_frozen hL lm0 0
            have z1 := lv_frozen hL lm0 1
            have z2 := lv_frozen hL lm0 2
            have z3 := lv_frozen hL lm0 3
            delta o19_6_10
            go_simp
            clear k0 z0 k1 z1 k2 z2 k3 z3
            obtain ⟨V19, hVx, hL2⟩ : ∃ V, (World.setCell (World.setCell (World.setCell (World.setCell W18 ⟨B17, 0, none⟩ (.int .u64 (r 0))) ⟨B17, 1, none⟩ (.int .u64 (r 1))) ⟨B17, 2, none⟩ (.int .u64 (r 2))) ⟨B17, 3, none⟩ (.int .u64 (r 3))) = V ∧ Lv w [(B17, Obj.cells #[.int .u64 (r 0), .int .u64 (r 1), .int .u64 (r 2), .int .u64 (r 3)] 24 (0, 0)), (B6, Obj.cells #[.int .u64 (x 0), .int .u64 (x 1), .int .u64 (x 2), .int .u64 (x 3)] 24 (0, 0)), (B2, Obj.cells #[.int .u64 0, .int .u64 0, .int .u64 0, .int .u64 0] 24 (0, 0))] V := ⟨_, rfl, lv_store4 [] hL _ _ _ _⟩
            rw [hVx]
            clear hVx hL
            have hL := hL2
            clear hL2
            refine hK.out _ _ (lv_sub (sd (sk (sk sn))) hL) (fun hHeld2 => ?_)
            clear hK K hHeld
            have hHeld := hHeld2
            clear hHeld2
            try simp only [Act.put, o19_6_10, List.setIfInBounds_toArray, List.set_cons_zero, List.set_cons_succ]
            refine tk 11 o19_6_11 (v := ?_) ?_ ?_
            rotate_left
            · intro w hSw
              delta o19_6_11
              go_simp
              try with_reducible rfl
            try simp only [Act.put, o19_6_11, List.setIfInBounds_toArray, List.set_cons_zero, List.set_cons_succ]
            refine wpAnyH_done (by kernel_rfl) ?_ _
            refine NoPanic.normal ?_
            exact ⟨rfl, B17, rfl, hL⟩
        rintro ee aa W20 ⟨rfl, B21, rfl, hL2⟩
        clear hL
        have hL := hL2
        clear hL2
        obtain ⟨q22, q23, q24, q25⟩ := lv_cells4 hL lm0
        obtain ⟨q26, q27, q28, q29⟩ := lv_cells4 hL lm1
        have z30 := lv_frozen hL lm1 0
        have z31 := lv_frozen hL lm1 1
        have z32 := lv_frozen hL lm1 2
        have z33 := lv_frozen hL lm1 3
        go_wp2_with fail
        clear q22 q23 q24 q25 q26 q27 q28 q29 z30 z31 z32 z33
        obtain ⟨V34, hV35, hL⟩ : ∃ V, (World.setCell (World.setCell (World.setCell (World.setCell W20 ⟨B6, 0, none⟩ (.int .u64 (r 0))) ⟨B6, 1, none⟩ (.int .u64 (r 1))) ⟨B6, 2, none⟩ (.int .u64 (r 2))) ⟨B6, 3, none⟩ (.int .u64 (r 3))) = V ∧ Lv w [(B21, Obj.cells #[.int .u64 (r 0), .int .u64 (r 1), .int .u64 (r 2), .int .u64 (r 3)] 24 (0, 0)), (B6, Obj.cells #[.int .u64 (r 0), .int .u64 (r 1), .int .u64 (r 2), .int .u64 (r 3)] 24 (0, 0)), (B2, Obj.cells #[.int .u64 0, .int .u64 0, .int .u64 0, .int .u64 0] 24 (0, 0))] V := ⟨_, rfl, lv_store4 [(B21, Obj.cells #[.int .u64 (r 0), .int .u64 (r 1), .int .u64 (r 2), .int .u64 (r 3)] 24 (0, 0))] hL _ _ _ _⟩
        rw [hV35]
        clear hV35
        replace hL := lv_sub (sd (sk (sk sn))) hL
        go_roundw
        case rel => exact ⟨k + 1, by omega, by go_num, by (rw [H2.out]; first | rfl | simp), by rw [HR.out]; exact hL⟩
        case measure => simp [intOf]; omega
      | false =>
        go_wp2_with fail
        refine Code.wp_mono (Q := (fun ee aa ww => ee = Exit.normal ∧ ∃ N9 : Nat, aa = { tmps := #[.slice (some ⟨bb, oo, none⟩) n cap, undef, .pointer (some ⟨B2, 0, none⟩), .bool false, .pointer (some ⟨B6, 0, none⟩), .bool false, .int .i64 k, .pointer (some ⟨N9, 0, none⟩), .bool o, .int .i64 k, .slice (some ⟨bb, oo, none⟩) n cap, .int .i64 n, .bool true, u13, u14, .tuple #[.agg #[.int .u64 (r 0), .int .u64 (r 1), .int .u64 (r 2), .int .u64 (r 3)], .bool o], .agg #[.int .u64 (x 0), .int .u64 (x 1), .int .u64 (x 2), .int .u64 (x 3)], .slice (some ⟨bb, oo, none⟩) n cap, .int .i64 k, .pointer (some ⟨bb, oo + k * 4, none⟩), .agg #[.int .u64 (y 0), .int .u64 (y 1), .int .u64 (y 2), .int .u64 (y 3)], .tuple #[.agg #[.int .u64 (r 0), .int .u64 (r 1), .int .u64 (r 2), .int .u64 (r 3)], .bool o], .agg #[.int .u64 (r 0), .int .u64 (r 1), .int .u64 (r 2), .int .u64 (r 3)], .bool o, u24, u25, u26, u27, u28, undef, undef], defers := [] } ∧ Lv w [(N9, Obj.cells #[.int .u64 (r 0), .int .u64 (r 1), .int .u64 (r 2), .int .u64 (r 3)] 24 (0, 0)), (B6, Obj.cells #[.int .u64 (x 0), .int .u64 (x 1), .int .u64 (x 2), .int .u64 (x 3)] 24 (0, 0)), (B2, Obj.cells #[.int .u64 0, .int .u64 0, .int .u64 0, .int .u64 0] 24 (0, 0))] ww)) ?_ ?_
        rotate_left
        · refine wp_region_noPanic ?_
          refine wp_region_held_drew (S := fun W' => Lv w [(B6, Obj.cells #[.int .u64 (x 0), .int .u64 (x 1), .int .u64 (x 2), .int .u64 (x 3)] 24 (0, 0)), (B2, Obj.cells #[.int .u64 0, .int .u64 0, .int .u64 0, .int .u64 0] 24 (0, 0))] W') (by kernel_rfl) (lv_drew (lv_sub (sk (sk sn)) hL)) (fun hHeld => ?_)
          replace hL := lv_drew hL
          obtain ⟨D10, hD11⟩ : ∃ W0, World.drew wr = W0 := ⟨_, rfl⟩
          rw [hD11] at hHeld hL ⊢
          clear hD11
          refine tk 0 o19_6_0 (v := ?_) ?_ ?_
          rotate_left
          · intro w hSw
            obtain ⟨k0, k1, k2, k3⟩ := lv_cells4 hSw lm0
            delta o19_6_0
            go_simp
            try with_reducible rfl
          try simp only [Act.put, o19_6_0, List.setIfInBounds_toArray, List.set_cons_zero, List.set_cons_succ]
          refine tk 1 o19_6_1 (v := ?_) ?_ ?_
          rotate_left
          · intro w hSw
            delta o19_6_1
            go_simp
            try with_reducible rfl
          try simp only [Act.put, o19_6_1, List.setIfInBounds_toArray, List.set_cons_zero, List.set_cons_succ]
          refine tk 2 o19_6_2 (v := ?_) ?_ ?_
          rotate_left
          · intro w hSw
            delta o19_6_2
            go_simp
            try with_reducible rfl
          try simp only [Act.put, o19_6_2, List.setIfInBounds_toArray, List.set_cons_zero, List.set_cons_succ]
          refine tk 3 o19_6_3 (v := ?_) ?_ ?_
          rotate_left
          · intro w hSw
            delta o19_6_3
            go_simp
            try with_reducible rfl
          try simp only [Act.put, o19_6_3, List.setIfInBounds_toArray, List.set_cons_zero, List.set_cons_succ]
          refine tk 4 o19_6_4 (v := ?_) ?_ ?_
          rotate_left
          · intro w hSw
            obtain ⟨k0, k1, k2, k3⟩ := HX.out _ hSw.2.2.2
            delta o19_6_4
            go_simp
            try with_reducible rfl
          try simp only [Act.put, o19_6_4, List.setIfInBounds_toArray, List.set_cons_zero, List.set_cons_succ]
          refine rd2 5 9 o19_6_5 o19_6_9 (fun K hK => ?_) (fun K hK => ?_)
          · skip
            delta o19_6_5
            go_simp
            refine (refaddn hx hy XA.out XO.out _).mono ?_
            rintro e W12 ⟨rfl, hBl⟩
            replace hL := lv_below hL hBl
            clear hBl
            refine hK.out _ _ (lv_sub (sk (sk sn)) hL) (fun hHeld2 => ?_)
            clear hK K hHeld
            have hHeld := hHeld2
            clear hHeld2
            try simp only [Act.put, o19_6_5, List.setIfInBounds_toArray, List.set_cons_zero, List.set_cons_succ]
            refine tk 6 o19_6_6 (v := ?_) ?_ ?_
            rotate_left
            · intro w hSw
              delta o19_6_6
              go_simp
              try with_reducible rfl
            try simp only [Act.put, o19_6_6, List.setIfInBounds_toArray, List.set_cons_zero, List.set_cons_succ]
            refine tk 7 o19_6_7 (v := ?_) ?_ ?_
            rotate_left
            · intro w hSw
              delta o19_6_7
              go_simp
              try with_reducible rfl
            try simp only [Act.put, o19_6_7, List.setIfInBounds_toArray, List.set_cons_zero, List.set_cons_succ]
            refine tk 8 o19_6_8 (v := ?_) ?_ ?_
            rotate_left
            · intro w hSw
              delta o19_6_8
              go_simp
              try with_reducible rfl
            try simp only [Act.put, o19_6_8, List.setIfInBounds_toArray, List.set_cons_zero, List.set_cons_succ]
            refine rd1 9 o19_6_9 (fun K hK => ?_)
            delta o19_6_9
            go_simp
            obtain ⟨V13, B14, hVx, hBx, hL2⟩ := lv_grow hL (Obj.cells #[.int .u64 0, .int .u64 0, .int .u64 0, .int .u64 0] 24)
            rw [hVx, hBx]
            clear hVx hBx hL
            have hL := hL2
            clear hL2
            refine hK.out _ _ (lv_sub (sd (sk (sk sn))) hL) (fun hHeld2 => ?_)
            clear hK K hHeld
            have hHeld := hHeld2
            clear hHeld2
            try simp only [Act.put, o19_6_9, List.setIfInBounds_toArray, List.set_cons_zero, List.set_cons_succ]
            refine rd1 10 o19_6_10 (fun K hK => ?_)
            obtain ⟨k0, k1, k2, k3⟩ := lv_cells4 hL lm0
            have z0 := lv_frozen hL lm0 0
            have z1 := lv_frozen hL lm0 1
            have z2 := lv_frozen hL lm0 2
            have z3 := lv_frozen hL lm0 3
            delta o19_6_10
            go_simp
            clear k0 z0 k1 z1 k2 z2 k3 z3
            obtain ⟨V15, hVx, hL2⟩ : ∃ V, (World.setCell (World.setCell (World.setCell (World.setCell V13 ⟨B14, 0, none⟩ (.int .u64 (r 0))) ⟨B14, 1, none⟩ (.int .u64 (r 1))) ⟨B14, 2, none⟩ (.int .u64 (r 2))) ⟨B14, 3, none⟩ (.int .u64 (r 3))) = V ∧ Lv w [(B14, Obj.cells #[.int .u64 (r 0), .int .u64 (r 1), .int .u64 (r 2), .int .u64 (r 3)] 24 (0, 0)), (B6, Obj.cells #[.int .u64 (x 0), .int .u64 (x 1), .int .u64 (x 2), .int .u64 (x 3)] 24 (0, 0)), (B2, Obj.cells #[.int .u64 0, .int .u64 0, .int .u64 0, .int .u64 0] 24 (0, 0))] V := ⟨_, rfl, lv_store4 [] hL _ _ _ _⟩
            rw [hVx]
            clear hVx hL
            have hL := hL2
            clear hL2
            refine hK.out _ _ (lv_sub (sd (sk (sk sn))) hL) (fun hHeld2 => ?_)
            clear hK K hHeld
            have hHeld := hHeld2
            clear hHeld2
            try simp only [Act.put, o19_6_10, List.setIfInBounds_toArray, List.set_cons_zero, List.set_cons_succ]
            refine tk 11 o19_6_11 (v := ?_) ?_ ?_
            rotate_left
            · intro w hSw
              delta o19_6_11
              go_simp
              try with_reducible rfl
            try simp only [Act.put, o19_6_11, List.setIfInBounds_toArray, List.set_cons_zero, List.set_cons_succ]
            refine wpAnyH_done (by kernel_rfl) ?_ _
            refine NoPanic.normal ?_
            exact ⟨rfl, B14, rfl, hL⟩
          · skip
            delta o19_6_9
            go_simp
            obtain ⟨V16, B17, hVx, hBx, hL2⟩ := lv_grow hL (Obj.cells #[.int .u64 0, .int .u64 0, .int .u64 0, .int .u64 0] 24)
            rw [hVx, hBx]
            clear hVx hBx hL
            have hL := hL2
            clear hL2
            refine hK.out _ _ (lv_sub (sd (sk (sk sn))) hL) (fun hHeld2 => ?_)
            clear hK K hHeld
            have hHeld := hHeld2
            clear hHeld2
            try simp only [Act.put, o19_6_9, List.setIfInBounds_toArray, List.set_cons_zero, List.set_cons_succ]
            refine rd1 5 o19_6_5 (fun K hK => ?_)
            delta o19_6_5
            go_simp
            refine (refaddn hx hy XA.out XO.out _).mono ?_
            rintro e W18 ⟨rfl, hBl⟩
            replace hL := lv_below hL hBl
            clear hBl
            refine hK.out _ _ (lv_sub (sd (sk (sk sn))) hL) (fun hHeld2 => ?_)
            clear hK K hHeld
            have hHeld := hHeld2
            clear hHeld2
            try simp only [Act.put, o19_6_5, List.setIfInBounds_toArray, List.set_cons_zero, List.set_cons_succ]
            refine tk 6 o19_6_6 (v := ?_) ?_ ?_
            rotate_left
            · intro w hSw
              delta o19_6_6
              go_simp
              try with_reducible rfl
            try simp only [Act.put, o19_6_6, List.setIfInBounds_toArray, List.set_cons_zero, List.set_cons_succ]
            refine tk 7 o19_6_7 (v := ?_) ?_ ?_
            rotate_left
            · intro w hSw
              delta o19_6_7
              go_simp
              try with_reducible rfl
            try simp only [Act.put, o19_6_7, List.setIfInBounds_toArray, List.set_cons_zero, List.set_cons_succ]
            refine tk 8 o19_6_8 (v := ?_) ?_ ?_
            rotate_left
            · intro w hSw
              delta o19_6_8
              go_simp
              try with_reducible rfl
            try simp only [Act.put, o19_6_8, List.setIfInBounds_toArray, List.set_cons_zero, List.set_cons_succ]
            refine rd1 10 o19_6_10 (fun K hK => ?_)
            obtain ⟨k0, k1, k2, k3⟩ := lv_cells4 hL lm0
            have z0 := lv_frozen hL lm0 0
            have z1 := lv_frozen hL lm0 1
            have z2 := lv_frozen hL lm0 2
            have z3 := lv_frozen hL lm0 3
            delta o19_6_10
            go_simp
            clear k0 z0 k1 z1 k2 z2 k3 z3
            obtain ⟨V19, hVx, hL2⟩ : ∃ V, (World.setCell (World.setCell (World.setCell (World.setCell W18 ⟨B17, 0, none⟩ (.int .u64 (r 0))) ⟨B17, 1, none⟩ (.int .u64 (r 1))) ⟨B17, 2, none⟩ (.int .u64 (r 2))) ⟨B17, 3, none⟩ (.int .u64 (r 3))) = V ∧ Lv w [(B17, Obj.cells #[.int .u64 (r 0), .int .u64 (r 1), .int .u64 (r 2), .int .u64 (r 3)] 24 (0, 0)), (B6, Obj.cells #[.int .u64 (x 0), .int .u64 (x 1), .int .u64 (x 2), .int .u64 (x 3)] 24 (0, 0)), (B2, Obj.cells #[.int .u64 0, .int .u64 0, .int .u64 0, .int .u64 0] 24 (0, 0))] V := ⟨_, rfl, lv_store4 [] hL _ _ _ _⟩
            rw [hVx]
            clear hVx hL
            have hL := hL2
            clear hL2
            refine hK.out _ _ (lv_sub (sd (sk (sk sn))) hL) (fun hHeld2 => ?_)
            clear hK K hHeld
            have hHeld := hHeld2
            clear hHeld2
            try simp only [Act.put, o19_6_10, List.setIfInBounds_toArray, List.set_cons_zero, List.set_cons_succ]
            refine tk 11 o19_6_11 (v := ?_) ?_ ?_
            rotate_left
            · intro w hSw
              delta o19_6_11
              go_simp
              try with_reducible rfl
            try simp only [Act.put, o19_6_11, List.setIfInBounds_toArray, List.set_cons_zero, List.set_cons_succ]
            refine wpAnyH_done (by kernel_rfl) ?_ _
            refine NoPanic.normal ?_
            exact ⟨rfl, B17, rfl, hL⟩
        rintro ee aa W20 ⟨rfl, B21, rfl, hL2⟩
        clear hL
        have hL := hL2
        clear hL2
        obtain ⟨q22, q23, q24, q25⟩ := lv_cells4 hL lm0
        obtain ⟨q26, q27, q28, q29⟩ := lv_cells4 hL lm1
        have z30 := lv_frozen hL lm1 0
        have z31 := lv_frozen hL lm1 1
        have z32 := lv_frozen hL lm1 2
        have z33 := lv_frozen hL lm1 3
        go_wp2_with fail
        clear q22 q23 q24 q25 q26 q27 q28 q29 z30 z31 z32 z33
        obtain ⟨V34, hV35, hL⟩ : ∃ V, (World.setCell (World.setCell (World.setCell (World.setCell W20 ⟨B6, 0, none⟩ (.int .u64 (r 0))) ⟨B6, 1, none⟩ (.int .u64 (r 1))) ⟨B6, 2, none⟩ (.int .u64 (r 2))) ⟨B6, 3, none⟩ (.int .u64 (r 3))) = V ∧ Lv w [(B21, Obj.cells #[.int .u64 (r 0), .int .u64 (r 1), .int .u64 (r 2), .int .u64 (r 3)] 24 (0, 0)), (B6, Obj.cells #[.int .u64 (r 0), .int .u64 (r 1), .int .u64 (r 2), .int .u64 (r 3)] 24 (0, 0)), (B2, Obj.cells #[.int .u64 0, .int .u64 0, .int .u64 0, .int .u64 0] 24 (0, 0))] V := ⟨_, rfl, lv_store4 [(B21, Obj.cells #[.int .u64 (r 0), .int .u64 (r 1), .int .u64 (r 2), .int .u64 (r 3)] 24 (0, 0))] hL _ _ _ _⟩
        rw [hV35]
        clear hV35
        replace hL := lv_sub (sd (sk (sk sn))) hL
        go_roundw
        case rel => exact ⟨k + 1, by omega, by go_num, by (rw [H2.out]; first | rfl | simp), by rw [HR.out]; exact hL⟩
        case measure => simp [intOf]; omega
    · obtain rfl : k = n := by omega
      obtain ⟨q210, q211, q212, q213⟩ := lv_cells4 hL lm0
      obtain ⟨q214, q215, q216, q217⟩ := lv_cells4 hL lm1
      have z218 := lv_frozen hL lm1 0
      have z219 := lv_frozen hL lm1 1
      have z220 := lv_frozen hL lm1 2
      have z221 := lv_frozen hL lm1 3
      go_wp2_with fail
      clear q210 q211 q212 q213 q214 q215 q216 q217 z218 z219 z220 z221
      obtain ⟨V222, hV223, hL⟩ : ∃ V, (World.setCell (World.setCell (World.setCell (World.setCell wr ⟨B2, 0, none⟩ (.int .u64 (((sumSt L k).1) 0))) ⟨B2, 1, none⟩ (.int .u64 (((sumSt L k).1) 1))) ⟨B2, 2, none⟩ (.int .u64 (((sumSt L k).1) 2))) ⟨B2, 3, none⟩ (.int .u64 (((sumSt L k).1) 3))) = V ∧ Lv w [(B6, Obj.cells #[.int .u64 (((sumSt L k).1) 0), .int .u64 (((sumSt L k).1) 1), .int .u64 (((sumSt L k).1) 2), .int .u64 (((sumSt L k).1) 3)] 24 (0, 0)), (B2, Obj.cells #[.int .u64 (((sumSt L k).1) 0), .int .u64 (((sumSt L k).1) 1), .int .u64 (((sumSt L k).1) 2), .int .u64 (((sumSt L k).1) 3)] 24 (0, 0))] V := ⟨_, rfl, lv_store4 [(B6, Obj.cells #[.int .u64 (((sumSt L k).1) 0), .int .u64 (((sumSt L k).1) 1), .int .u64 (((sumSt L k).1) 2), .int .u64 (((sumSt L k).1) 3)] 24 (0, 0))] hL _ _ _ _⟩
      rw [hV223]
      clear hV223
      obtain ⟨k224, k225, k226, k227⟩ := lv_cells4 hL lm1
      refine bodyPost_ret (v := .tuple #[.agg #[.int .u64 (((sumSt L k).1) 0), .int .u64 (((sumSt L k).1) 1), .int .u64 (((sumSt L k).1) 2), .int .u64 (((sumSt L k).1) 3)], .bool (sumSt L k).2]) (by simp [results, Try.results19, go_sem, k224, k225, k226, k227]) rfl ⟨rfl, hL.2.2.2⟩

end Go.Proofs.Ytecgclkjglkkbaa
