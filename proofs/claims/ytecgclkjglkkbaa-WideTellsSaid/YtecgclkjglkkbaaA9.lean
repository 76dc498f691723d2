/- The contract of Mul of package wide, for every input. -/
import Derived.Test.YtecgclkjglkkbaaA8
namespace Go.Proofs.Ytecgclkjglkkbaa
open Go Go.RowKit Go.Shelf
set_option linter.unusedSimpArgs false
set_option linter.unusedVariables false

theorem sm_new (a b : Nat → Nat) (w : World) : Sm w.heap.size w a b (((w.alloc (.cells #[.int .u64 (a 0), .int .u64 (a 1), .int .u64 (a 2), .int .u64 (a 3)] 24)).alloc (.cells #[.int .u64 (b 0), .int .u64 (b 1), .int .u64 (b 2), .int .u64 (b 3)] 24)).alloc (.cells #[.int .u64 0, .int .u64 0, .int .u64 0, .int .u64 0] 24)) := by
  refine ⟨((At4.new w a).alloc _).alloc _, ?_, ?_, (((Below.refl _ w).alloc (Nat.le_refl _) _).alloc (by simp) _).alloc (by simp; omega) _⟩
  · have h := At4.new (w.alloc (.cells #[.int .u64 (a 0), .int .u64 (a 1), .int .u64 (a 2), .int .u64 (a 3)] 24)) b
    rw [World.size_alloc] at h
    exact h.alloc _
  · have h := At4.new ((w.alloc (.cells #[.int .u64 (a 0), .int .u64 (a 1), .int .u64 (a 2), .int .u64 (a 3)] 24)).alloc (.cells #[.int .u64 (b 0), .int .u64 (b 1), .int .u64 (b 2), .int .u64 (b 3)] 24)) Zr
    rw [World.size_alloc, World.size_alloc] at h
    exact h

/-- The blocks of Mul behind its first statement: block B holds what is handed back. -/
def Tm (N : Nat) (w : World) (a b : Nat → Nat) (B : Nat) (r : Nat → Nat) (W : World) : Prop := At4 W N a ∧ At4 W (N + 1) b ∧ (∃ z, At4 W (N + 1 + 1) z) ∧ At4 W B r ∧ Below N w W ∧ N + 1 + 1 < B
theorem tm_below {N B : Nat} {w W W1 : World} {a b r : Nat → Nat} (h : Tm N w a b B r W) (hB : Below W.heap.size W W1) : Tm N w a b B r W1 := by
  obtain ⟨h1, h2, ⟨z, h3⟩, h4, h6, h7⟩ := h
  have := h1.lt
  exact ⟨h1.below hB, h2.below hB, ⟨z, h3.below hB⟩, h4.below hB, h6.trans (hB.mono (by omega)), h7⟩
theorem tm_drew {N B : Nat} {w W : World} {a b r : Nat → Nat} (h : Tm N w a b B r W) : Tm N w a b B r W.drew := ⟨h.1, h.2.1, h.2.2.1, h.2.2.2.1, h.2.2.2.2.1.drew, h.2.2.2.2.2⟩
theorem tm_new {N B : Nat} {w W : World} {a b r : Nat → Nat} (h : Tm N w a b B r W) (q : Nat → Nat) : Tm N w a b W.heap.size q (W.alloc (.cells #[.int .u64 (q 0), .int .u64 (q 1), .int .u64 (q 2), .int .u64 (q 3)] 24)) := by
  have h2 := tm_below h ((Below.refl _ W).alloc (Nat.le_refl _) (.cells #[.int .u64 (q 0), .int .u64 (q 1), .int .u64 (q 2), .int .u64 (q 3)] 24))
  have := h.2.2.2.1.lt
  have := h.2.2.2.2.2
  exact ⟨h2.1, h2.2.1, h2.2.2.1, At4.new W q, h2.2.2.2.2.1, by omega⟩
theorem tm_store {N B : Nat} {w W : World} {a b r : Nat → Nat} (h : Tm N w a b B r W) :
    Tm N w a b B r ((((W.setCell ⟨N + 1 + 1, 0, none⟩ (.int .u64 (r 0))).setCell ⟨N + 1 + 1, 1, none⟩ (.int .u64 (r 1))).setCell ⟨N + 1 + 1, 2, none⟩ (.int .u64 (r 2))).setCell ⟨N + 1 + 1, 3, none⟩ (.int .u64 (r 3))) ∧
    At4 ((((W.setCell ⟨N + 1 + 1, 0, none⟩ (.int .u64 (r 0))).setCell ⟨N + 1 + 1, 1, none⟩ (.int .u64 (r 1))).setCell ⟨N + 1 + 1, 2, none⟩ (.int .u64 (r 2))).setCell ⟨N + 1 + 1, 3, none⟩ (.int .u64 (r 3))) (N + 1 + 1) r := by
  obtain ⟨h1, h2, ⟨z, h3⟩, h4, h6, h7⟩ := h
  exact ⟨⟨h1.other4 (by omega) _ _ _ _, h2.other4 (by omega) _ _ _ _, ⟨_, h3.set4 r⟩, h4.other4 (by omega) _ _ _ _, below4 h6 (by omega) _ _ _ _, h7⟩, h3.set4 r⟩

set_option maxRecDepth 100000 in
set_option maxHeartbeats 4000000 in
theorem mul_tt (a b lo hh : Nat → Nat) (ha : Wds a) (hb : Wds b) (hlo : Wds lo) (w : World)
    (hprod : ∀ W, Calls Try.prog 55 #[.agg #[.int .u64 (sizeR a 0), .int .u64 (sizeR a 1), .int .u64 (sizeR a 2), .int .u64 (sizeR a 3)], .agg #[.int .u64 (sizeR b 0), .int .u64 (sizeR b 1), .int .u64 (sizeR b 2), .int .u64 (sizeR b 3)]] W fun e w' => e = .returned (.tuple #[.agg #[.int .u64 (lo 0), .int .u64 (lo 1), .int .u64 (lo 2), .int .u64 (lo 3)], .agg #[.int .u64 (hh 0), .int .u64 (hh 1), .int .u64 (hh 2), .int .u64 (hh 3)]]) ∧ Below W.heap.size W w')
    (hz : eqB hh Zr = false) (hg : (lowB a == lowB b) = true) :
    Calls Try.prog 14 #[.agg #[.int .u64 (a 0), .int .u64 (a 1), .int .u64 (a 2), .int .u64 (a 3)], .agg #[.int .u64 (b 0), .int .u64 (b 1), .int .u64 (b 2), .int .u64 (b 3)]] w fun e w' => e = .returned (.tuple #[.agg #[.int .u64 (lo 0), .int .u64 (lo 1), .int .u64 (lo 2), .int .u64 (lo 3)], .bool true]) ∧ Below w.heap.size w w' := by
  have heq : ∀ w, (Op.equalIn 10000 24 (.agg #[.int .u64 (hh 0), .int .u64 (hh 1), .int .u64 (hh 2), .int .u64 (hh 3)]) (.agg #[.int .u64 0, .int .u64 0, .int .u64 0, .int .u64 0])).run Try.prog w = .ok (eqB hh Zr) w := fun w => eq4 hh Zr w
  rw [hz] at heq
  clear hz
  obtain ⟨qa, hqa⟩ : ∃ q, lowB a = q := ⟨_, rfl⟩
  obtain ⟨qb, hqb⟩ : ∃ q, lowB b = q := ⟨_, rfl⟩
  rw [hqa, hqb] at hg
  have HA := Lib.hid hqa
  have HB := Lib.hid hqb
  clear hqa hqb
  have hS0 := sm_new a b w
  have HP := Lib.hid hprod
  clear hprod
  go_enter Try.func14, Try.ntmps14
  go_wp2
  obtain ⟨N, hN⟩ : ∃ N, w.heap.size = N := ⟨_, rfl⟩
  rw [hN] at hS0 ⊢
  refine Code.wp_mono ?_ (mul_first N w a b lo hh ha hb _ hS0 HP.out)
  rintro e a' W1 ⟨rfl, B6, B7, rfl, hS, h6, h7, hne, g6, g7⟩
  have k0 := h7.cell 0 (by omega)
  have k1 := h7.cell 1 (by omega)
  have k2 := h7.cell 2 (by omega)
  have k3 := h7.cell 3 (by omega)
  clear hS0
  go_wp2
  clear k0 k1 k2 k3
  have hT : Tm N w a b B6 lo W1 := ⟨hS.1, hS.2.1, ⟨_, hS.2.2.1⟩, h6, hS.2.2.2, g6⟩
  clear h7 hne g7 hS h6
  refine wp_region_held_drew (S := fun W' => Tm N w a b B6 lo W') (by kernel_rfl) (tm_drew hT) (fun hHeld => ?_)
  have hHeld0 := hHeld
  revert hHeld hHeld0
  generalize W1.drew = Wd
  intro hHeld hHeld0
  clear hHeld0
  refine wpAnyH_take (i := 0) (oi := { dst := some 22, op := Go.Op.load 24 (Go.Operand.tmp 2), type := 24, pos := "wide.go:50", after := #[], guard := none }) (v := ?_) rfl (by kernel_rfl) (by kernel_rfl) (by kernel_rfl) (fun _ _ _ h => h) (Or.inl ⟨by rfl, ?_⟩) (by assumption) ?_
  rotate_left
  · intro w hSw
    have k0 := hSw.1.cell 0 (by omega)
    have k1 := hSw.1.cell 1 (by omega)
    have k2 := hSw.1.cell 2 (by omega)
    have k3 := hSw.1.cell 3 (by omega)
    go_simp
    try with_reducible rfl
  try simp only [Act.put, List.setIfInBounds_toArray, List.set_cons_zero, List.set_cons_succ]
  refine wpAnyH_take (i := 2) (oi := { dst := some 24, op := Go.Op.load 24 (Go.Operand.tmp 3), type := 24, pos := "wide.go:50", after := #[], guard := none }) (v := ?_) rfl (by kernel_rfl) (by kernel_rfl) (by kernel_rfl) (fun _ _ _ h => h) (Or.inl ⟨by rfl, ?_⟩) (by assumption) ?_
  rotate_left
  · intro w hSw
    have k0 := hSw.2.1.cell 0 (by omega)
    have k1 := hSw.2.1.cell 1 (by omega)
    have k2 := hSw.2.1.cell 2 (by omega)
    have k3 := hSw.2.1.cell 3 (by omega)
    go_simp
    try with_reducible rfl
  try simp only [Act.put, List.setIfInBounds_toArray, List.set_cons_zero, List.set_cons_succ]
  refine wpAnyH_ready (rs := [1]) (by kernel_rfl) (by simp) ?_
  refine AllReadyH.cons (o := { dst := some 23, op := Go.Op.call { callee := Go.Callee.value (Go.Operand.func 48), args := #[Go.Operand.tmp 22], argTypes := #[24] }, type := 4, pos := "wide.go:50", after := #[{ on := 0, ground := Go.Ground.data }], guard := none }) rfl (fun K hK => ?_) AllReadyH.nil
  go_simp
  refine (below_is a qa (ha 3) HA.out _).mono ?_
  rintro e W5 ⟨rfl, hBl⟩
  refine hK.out _ _ ?_ (fun hHeld2 => ?_)
  · exact tm_below hHeld hBl
  clear hK K hHeld
  have hHeld := hHeld2
  clear hHeld2
  try simp only [Act.put, List.setIfInBounds_toArray, List.set_cons_zero, List.set_cons_succ]
  refine wpAnyH_ready (rs := [3]) (by kernel_rfl) (by simp) ?_
  refine AllReadyH.cons (o := { dst := some 25, op := Go.Op.call { callee := Go.Callee.value (Go.Operand.func 48), args := #[Go.Operand.tmp 24], argTypes := #[24] }, type := 4, pos := "wide.go:50", after := #[{ on := 2, ground := Go.Ground.data }, { on := 1, ground := Go.Ground.chain }], guard := none }) rfl (fun K hK => ?_) AllReadyH.nil
  go_simp
  refine (below_is b qb (hb 3) HB.out _).mono ?_
  rintro e W5 ⟨rfl, hBl⟩
  refine hK.out _ _ ?_ (fun hHeld2 => ?_)
  · exact tm_below hHeld hBl
  clear hK K hHeld
  have hHeld := hHeld2
  clear hHeld2
  try simp only [Act.put, List.setIfInBounds_toArray, List.set_cons_zero, List.set_cons_succ]
  refine wpAnyH_take (i := 4) (oi := { dst := some 26, op := Go.Op.binOp Go.BinOp.eql 4 (Go.Operand.tmp 23) (Go.Operand.tmp 25) 4, type := 4, pos := "wide.go:50", after := #[{ on := 1, ground := Go.Ground.data }, { on := 3, ground := Go.Ground.data }], guard := none }) (v := ?_) rfl (by kernel_rfl) (by kernel_rfl) (by kernel_rfl) (fun _ _ _ h => h) (Or.inl ⟨by rfl, ?_⟩) (by assumption) ?_
  rotate_left
  · intro w hSw
    go_simp
    try with_reducible rfl
  try simp only [Act.put, List.setIfInBounds_toArray, List.set_cons_zero, List.set_cons_succ]
  refine wpAnyH_done (by kernel_rfl) ?_ _
  clear hT
  have hT := hHeld
  clear hHeld
  go_wp2
  refine wp_region_held_drew (S := fun W' => Tm N w a b B6 lo W') (by kernel_rfl) (tm_drew hT) (fun hHeld => ?_)
  have hHeld0 := hHeld
  revert hHeld hHeld0
  generalize W5.drew = Wd
  intro hHeld hHeld0
  clear hHeld0
  refine wpAnyH_take (i := 0) (oi := { dst := some 27, op := Go.Op.load 24 (Go.Operand.tmp 6), type := 24, pos := "wide.go:51", after := #[], guard := none }) (v := ?_) rfl (by kernel_rfl) (by kernel_rfl) (by kernel_rfl) (fun _ _ _ h => h) (Or.inl ⟨by rfl, ?_⟩) (by assumption) ?_
  rotate_left
  · intro w hSw
    have k0 := hSw.2.2.2.1.cell 0 (by omega)
    have k1 := hSw.2.2.2.1.cell 1 (by omega)
    have k2 := hSw.2.2.2.1.cell 2 (by omega)
    have k3 := hSw.2.2.2.1.cell 3 (by omega)
    go_simp
    try with_reducible rfl
  try simp only [Act.put, List.setIfInBounds_toArray, List.set_cons_zero, List.set_cons_succ]
  refine wpAnyH_take (i := 1) (oi := { dst := some 28, op := Go.Op.move (Go.Operand.tmp 8), type := 4, pos := "wide.go:51", after := #[], guard := none }) (v := ?_) rfl (by kernel_rfl) (by kernel_rfl) (by kernel_rfl) (fun _ _ _ h => h) (Or.inl ⟨by rfl, ?_⟩) (by assumption) ?_
  rotate_left
  · intro w hSw
    go_simp
    try with_reducible rfl
  try simp only [Act.put, List.setIfInBounds_toArray, List.set_cons_zero, List.set_cons_succ]
  refine wpAnyH_take (i := 2) (oi := { dst := some 29, op := Go.Op.move (Go.Operand.tmp 28), type := 4, pos := "wide.go:51", after := #[{ on := 1, ground := Go.Ground.data }], guard := none }) (v := ?_) rfl (by kernel_rfl) (by kernel_rfl) (by kernel_rfl) (fun _ _ _ h => h) (Or.inl ⟨by rfl, ?_⟩) (by assumption) ?_
  rotate_left
  · intro w hSw
    go_simp
    try with_reducible rfl
  try simp only [Act.put, List.setIfInBounds_toArray, List.set_cons_zero, List.set_cons_succ]
  refine wpAnyH_take (i := 3) (oi := { dst := some 30, op := Go.Op.load 24 (Go.Operand.tmp 6), type := 24, pos := "wide.go:51", after := #[{ on := 2, ground := Go.Ground.guard }], guard := some (2, false) }) (v := undef) rfl (by kernel_rfl) (by kernel_rfl) (by kernel_rfl) (fun _ _ _ h => h) (Or.inr ⟨by rfl, rfl⟩) (by assumption) ?_
  try simp only [Act.put, List.setIfInBounds_toArray, List.set_cons_zero, List.set_cons_succ]
  refine wpAnyH_ready (rs := [4]) (by kernel_rfl) (by simp) ?_
  refine AllReadyH.cons (o := { dst := some 31, op := Go.Op.call { callee := Go.Callee.value (Go.Operand.func 48), args := #[Go.Operand.tmp 30], argTypes := #[24] }, type := 4, pos := "wide.go:51", after := #[{ on := 3, ground := Go.Ground.data }, { on := 2, ground := Go.Ground.chain }, { on := 2, ground := Go.Ground.guard }], guard := some (2, false) }) rfl (fun K hK => ?_) AllReadyH.nil
  go_simp
  refine hK.out _ _ ?_ (fun hHeld2 => ?_)
  · exact hHeld
  clear hK K hHeld
  have hHeld := hHeld2
  clear hHeld2
  try simp only [Act.put, List.setIfInBounds_toArray, List.set_cons_zero, List.set_cons_succ]
  refine wpAnyH_take (i := 5) (oi := { dst := some 32, op := Go.Op.pick (Go.Operand.tmp 29) (Go.Operand.const (Go.Value.bool true)) (Go.Operand.tmp 31), type := 4, pos := "wide.go:51", after := #[{ on := 2, ground := Go.Ground.data }, { on := 4, ground := Go.Ground.data }, { on := 6, ground := Go.Ground.gcOnly Go.Departure.lateStores }], guard := none }) (v := ?_) rfl (by kernel_rfl) (by kernel_rfl) (by kernel_rfl) (fun _ _ _ h => h) (Or.inl ⟨by rfl, ?_⟩) (by assumption) ?_
  rotate_left
  · intro w hSw
    go_simp
    try with_reducible rfl
  try simp only [Act.put, List.setIfInBounds_toArray, List.set_cons_zero, List.set_cons_succ]
  refine wpAnyH_ready (rs := [6]) (by kernel_rfl) (by simp) ?_
  refine AllReadyH.cons (o := { dst := none, op := Go.Op.store 24 (Go.Operand.tmp 4) (Go.Operand.tmp 27), type := 0, pos := "wide.go:51", after := #[{ on := 0, ground := Go.Ground.data }, { on := 4, ground := Go.Ground.chain }, { on := 0, ground := Go.Ground.phase }, { on := 1, ground := Go.Ground.textOnly Go.Departure.lateStores }, { on := 2, ground := Go.Ground.textOnly Go.Departure.lateStores }, { on := 3, ground := Go.Ground.textOnly Go.Departure.lateStores }, { on := 4, ground := Go.Ground.textOnly Go.Departure.lateStoresUnsure }, { on := 5, ground := Go.Ground.textOnly Go.Departure.lateStores }], guard := none }) rfl (fun K hK => ?_) AllReadyH.nil
  have hA3 := tm_store hHeld 
  obtain ⟨z, hz⟩ := hHeld.2.2.1
  have k0 := hz.cell 0 (by omega)
  have k1 := hz.cell 1 (by omega)
  have k2 := hz.cell 2 (by omega)
  have k3 := hz.cell 3 (by omega)
  have f0 := hz.frozen 0
  have f1 := hz.frozen 1
  have f2 := hz.frozen 2
  have f3 := hz.frozen 3
  clear hz
  go_simp
  refine hK.out _ _ ?_ (fun hHeld2 => ?_)
  · exact hA3.1
  clear hK K hHeld
  have hHeld := hHeld2
  clear hHeld2
  try simp only [Act.put, List.setIfInBounds_toArray, List.set_cons_zero, List.set_cons_succ]
  clear k0 k1 k2 k3 f0 f1 f2 f3
  refine wpAnyH_take (i := 7) (oi := { dst := some 5, op := Go.Op.assign (Go.Operand.tmp 32), type := 4, pos := "wide.go:51", after := #[{ on := 5, ground := Go.Ground.data }, { on := 6, ground := Go.Ground.chain }, { on := 0, ground := Go.Ground.phase }, { on := 1, ground := Go.Ground.phase }, { on := 2, ground := Go.Ground.phase }, { on := 3, ground := Go.Ground.phase }, { on := 4, ground := Go.Ground.phase }, { on := 5, ground := Go.Ground.phase }, { on := 6, ground := Go.Ground.phase }], guard := none }) (v := ?_) rfl (by kernel_rfl) (by kernel_rfl) (by kernel_rfl) (fun _ _ _ h => h) (Or.inl ⟨by rfl, ?_⟩) (by assumption) ?_
  rotate_left
  · intro w hSw
    go_simp
    try with_reducible rfl
  try simp only [Act.put, List.setIfInBounds_toArray, List.set_cons_zero, List.set_cons_succ]
  refine wpAnyH_done (by kernel_rfl) ?_ _
  obtain ⟨hA4, hZ⟩ := hA3
  go_wp2
  have k0 := hZ.cell 0 (by omega)
  have k1 := hZ.cell 1 (by omega)
  have k2 := hZ.cell 2 (by omega)
  have k3 := hZ.cell 3 (by omega)
  refine bodyPost_ret (v := .tuple #[.agg #[.int .u64 (lo 0), .int .u64 (lo 1), .int .u64 (lo 2), .int .u64 (lo 3)], .bool true]) (by simp [results, Try.results14, go_sem, k0, k1, k2, k3]) rfl ⟨rfl, ?_⟩
  rw [hN]
  exact hA4.2.2.2.2.1

set_option maxRecDepth 100000 in
set_option maxHeartbeats 4000000 in
theorem mul_ft (a b lo hh : Nat → Nat) (ha : Wds a) (hb : Wds b) (hlo : Wds lo) (w : World)
    (hprod : ∀ W, Calls Try.prog 55 #[.agg #[.int .u64 (sizeR a 0), .int .u64 (sizeR a 1), .int .u64 (sizeR a 2), .int .u64 (sizeR a 3)], .agg #[.int .u64 (sizeR b 0), .int .u64 (sizeR b 1), .int .u64 (sizeR b 2), .int .u64 (sizeR b 3)]] W fun e w' => e = .returned (.tuple #[.agg #[.int .u64 (lo 0), .int .u64 (lo 1), .int .u64 (lo 2), .int .u64 (lo 3)], .agg #[.int .u64 (hh 0), .int .u64 (hh 1), .int .u64 (hh 2), .int .u64 (hh 3)]]) ∧ Below W.heap.size W w')
    (hz : eqB hh Zr = true) (hg : (lowB a == lowB b) = true) :
    Calls Try.prog 14 #[.agg #[.int .u64 (a 0), .int .u64 (a 1), .int .u64 (a 2), .int .u64 (a 3)], .agg #[.int .u64 (b 0), .int .u64 (b 1), .int .u64 (b 2), .int .u64 (b 3)]] w fun e w' => e = .returned (.tuple #[.agg #[.int .u64 (lo 0), .int .u64 (lo 1), .int .u64 (lo 2), .int .u64 (lo 3)], .bool (lowB lo)]) ∧ Below w.heap.size w w' := by
  have heq : ∀ w, (Op.equalIn 10000 24 (.agg #[.int .u64 (hh 0), .int .u64 (hh 1), .int .u64 (hh 2), .int .u64 (hh 3)]) (.agg #[.int .u64 0, .int .u64 0, .int .u64 0, .int .u64 0])).run Try.prog w = .ok (eqB hh Zr) w := fun w => eq4 hh Zr w
  rw [hz] at heq
  clear hz
  obtain ⟨qa, hqa⟩ : ∃ q, lowB a = q := ⟨_, rfl⟩
  obtain ⟨qb, hqb⟩ : ∃ q, lowB b = q := ⟨_, rfl⟩
  rw [hqa, hqb] at hg
  have HA := Lib.hid hqa
  have HB := Lib.hid hqb
  clear hqa hqb
  have hS0 := sm_new a b w
  have HP := Lib.hid hprod
  clear hprod
  go_enter Try.func14, Try.ntmps14
  go_wp2
  obtain ⟨N, hN⟩ : ∃ N, w.heap.size = N := ⟨_, rfl⟩
  rw [hN] at hS0 ⊢
  refine Code.wp_mono ?_ (mul_first N w a b lo hh ha hb _ hS0 HP.out)
  rintro e a' W1 ⟨rfl, B6, B7, rfl, hS, h6, h7, hne, g6, g7⟩
  have k0 := h7.cell 0 (by omega)
  have k1 := h7.cell 1 (by omega)
  have k2 := h7.cell 2 (by omega)
  have k3 := h7.cell 3 (by omega)
  clear hS0
  go_wp2
  clear k0 k1 k2 k3
  have hT : Tm N w a b B6 lo W1 := ⟨hS.1, hS.2.1, ⟨_, hS.2.2.1⟩, h6, hS.2.2.2, g6⟩
  clear h7 hne g7 hS h6
  refine wp_region_held_drew (S := fun W' => Tm N w a b B6 lo W') (by kernel_rfl) (tm_drew hT) (fun hHeld => ?_)
  have hHeld0 := hHeld
  revert hHeld hHeld0
  generalize W1.drew = Wd
  intro hHeld hHeld0
  clear hHeld0
  refine wpAnyH_take (i := 0) (oi := { dst := some 22, op := Go.Op.load 24 (Go.Operand.tmp 2), type := 24, pos := "wide.go:50", after := #[], guard := none }) (v := ?_) rfl (by kernel_rfl) (by kernel_rfl) (by kernel_rfl) (fun _ _ _ h => h) (Or.inl ⟨by rfl, ?_⟩) (by assumption) ?_
  rotate_left
  · intro w hSw
    have k0 := hSw.1.cell 0 (by omega)
    have k1 := hSw.1.cell 1 (by omega)
    have k2 := hSw.1.cell 2 (by omega)
    have k3 := hSw.1.cell 3 (by omega)
    go_simp
    try with_reducible rfl
  try simp only [Act.put, List.setIfInBounds_toArray, List.set_cons_zero, List.set_cons_succ]
  refine wpAnyH_take (i := 2) (oi := { dst := some 24, op := Go.Op.load 24 (Go.Operand.tmp 3), type := 24, pos := "wide.go:50", after := #[], guard := none }) (v := ?_) rfl (by kernel_rfl) (by kernel_rfl) (by kernel_rfl) (fun _ _ _ h => h) (Or.inl ⟨by rfl, ?_⟩) (by assumption) ?_
  rotate_left
  · intro w hSw
    have k0 := hSw.2.1.cell 0 (by omega)
    have k1 := hSw.2.1.cell 1 (by omega)
    have k2 := hSw.2.1.cell 2 (by omega)
    have k3 := hSw.2.1.cell 3 (by omega)
    go_simp
    try with_reducible rfl
  try simp only [Act.put, List.setIfInBounds_toArray, List.set_cons_zero, List.set_cons_succ]
  refine wpAnyH_ready (rs := [1]) (by kernel_rfl) (by simp) ?_
  refine AllReadyH.cons (o := { dst := some 23, op := Go.Op.call { callee := Go.Callee.value (Go.Operand.func 48), args := #[Go.Operand.tmp 22], argTypes := #[24] }, type := 4, pos := "wide.go:50", after := #[{ on := 0, ground := Go.Ground.data }], guard := none }) rfl (fun K hK => ?_) AllReadyH.nil
  go_simp
  refine (below_is a qa (ha 3) HA.out _).mono ?_
  rintro e W5 ⟨rfl, hBl⟩
  refine hK.out _ _ ?_ (fun hHeld2 => ?_)
  · exact tm_below hHeld hBl
  clear hK K hHeld
  have hHeld := hHeld2
  clear hHeld2
  try simp only [Act.put, List.setIfInBounds_toArray, List.set_cons_zero, List.set_cons_succ]
  refine wpAnyH_ready (rs := [3]) (by kernel_rfl) (by simp) ?_
  refine AllReadyH.cons (o := { dst := some 25, op := Go.Op.call { callee := Go.Callee.value (Go.Operand.func 48), args := #[Go.Operand.tmp 24], argTypes := #[24] }, type := 4, pos := "wide.go:50", after := #[{ on := 2, ground := Go.Ground.data }, { on := 1, ground := Go.Ground.chain }], guard := none }) rfl (fun K hK => ?_) AllReadyH.nil
  go_simp
  refine (below_is b qb (hb 3) HB.out _).mono ?_
  rintro e W5 ⟨rfl, hBl⟩
  refine hK.out _ _ ?_ (fun hHeld2 => ?_)
  · exact tm_below hHeld hBl
  clear hK K hHeld
  have hHeld := hHeld2
  clear hHeld2
  try simp only [Act.put, List.setIfInBounds_toArray, List.set_cons_zero, List.set_cons_succ]
  refine wpAnyH_take (i := 4) (oi := { dst := some 26, op := Go.Op.binOp Go.BinOp.eql 4 (Go.Operand.tmp 23) (Go.Operand.tmp 25) 4, type := 4, pos := "wide.go:50", after := #[{ on := 1, ground := Go.Ground.data }, { on := 3, ground := Go.Ground.data }], guard := none }) (v := ?_) rfl (by kernel_rfl) (by kernel_rfl) (by kernel_rfl) (fun _ _ _ h => h) (Or.inl ⟨by rfl, ?_⟩) (by assumption) ?_
  rotate_left
  · intro w hSw
    go_simp
    try with_reducible rfl
  try simp only [Act.put, List.setIfInBounds_toArray, List.set_cons_zero, List.set_cons_succ]
  refine wpAnyH_done (by kernel_rfl) ?_ _
  clear hT
  have hT := hHeld
  clear hHeld
  go_wp2
  refine wp_region_held_drew (S := fun W' => Tm N w a b B6 lo W') (by kernel_rfl) (tm_drew hT) (fun hHeld => ?_)
  have hHeld0 := hHeld
  revert hHeld hHeld0
  generalize W5.drew = Wd
  intro hHeld hHeld0
  clear hHeld0
  refine wpAnyH_take (i := 0) (oi := { dst := some 27, op := Go.Op.load 24 (Go.Operand.tmp 6), type := 24, pos := "wide.go:51", after := #[], guard := none }) (v := ?_) rfl (by kernel_rfl) (by kernel_rfl) (by kernel_rfl) (fun _ _ _ h => h) (Or.inl ⟨by rfl, ?_⟩) (by assumption) ?_
  rotate_left
  · intro w hSw
    have k0 := hSw.2.2.2.1.cell 0 (by omega)
    have k1 := hSw.2.2.2.1.cell 1 (by omega)
    have k2 := hSw.2.2.2.1.cell 2 (by omega)
    have k3 := hSw.2.2.2.1.cell 3 (by omega)
    go_simp
    try with_reducible rfl
  try simp only [Act.put, List.setIfInBounds_toArray, List.set_cons_zero, List.set_cons_succ]
  refine wpAnyH_take (i := 1) (oi := { dst := some 28, op := Go.Op.move (Go.Operand.tmp 8), type := 4, pos := "wide.go:51", after := #[], guard := none }) (v := ?_) rfl (by kernel_rfl) (by kernel_rfl) (by kernel_rfl) (fun _ _ _ h => h) (Or.inl ⟨by rfl, ?_⟩) (by assumption) ?_
  rotate_left
  · intro w hSw
    go_simp
    try with_reducible rfl
  try simp only [Act.put, List.setIfInBounds_toArray, List.set_cons_zero, List.set_cons_succ]
  refine wpAnyH_take (i := 2) (oi := { dst := some 29, op := Go.Op.move (Go.Operand.tmp 28), type := 4, pos := "wide.go:51", after := #[{ on := 1, ground := Go.Ground.data }], guard := none }) (v := ?_) rfl (by kernel_rfl) (by kernel_rfl) (by kernel_rfl) (fun _ _ _ h => h) (Or.inl ⟨by rfl, ?_⟩) (by assumption) ?_
  rotate_left
  · intro w hSw
    go_simp
    try with_reducible rfl
  try simp only [Act.put, List.setIfInBounds_toArray, List.set_cons_zero, List.set_cons_succ]
  refine wpAnyH_take (i := 3) (oi := { dst := some 30, op := Go.Op.load 24 (Go.Operand.tmp 6), type := 24, pos := "wide.go:51", after := #[{ on := 2, ground := Go.Ground.guard }], guard := some (2, false) }) (v := ?_) rfl (by kernel_rfl) (by kernel_rfl) (by kernel_rfl) (fun _ _ _ h => h) (Or.inl ⟨by rfl, ?_⟩) (by assumption) ?_
  rotate_left
  · intro w hSw
    have k0 := hSw.2.2.2.1.cell 0 (by omega)
    have k1 := hSw.2.2.2.1.cell 1 (by omega)
    have k2 := hSw.2.2.2.1.cell 2 (by omega)
    have k3 := hSw.2.2.2.1.cell 3 (by omega)
    go_simp
    try with_reducible rfl
  try simp only [Act.put, List.setIfInBounds_toArray, List.set_cons_zero, List.set_cons_succ]
  refine wpAnyH_ready (rs := [4]) (by kernel_rfl) (by simp) ?_
  refine AllReadyH.cons (o := { dst := some 31, op := Go.Op.call { callee := Go.Callee.value (Go.Operand.func 48), args := #[Go.Operand.tmp 30], argTypes := #[24] }, type := 4, pos := "wide.go:51", after := #[{ on := 3, ground := Go.Ground.data }, { on := 2, ground := Go.Ground.chain }, { on := 2, ground := Go.Ground.guard }], guard := some (2, false) }) rfl (fun K hK => ?_) AllReadyH.nil
  go_simp
  refine (below_x lo hlo _).mono ?_
  rintro e W5 ⟨rfl, hBl⟩
  refine hK.out _ _ ?_ (fun hHeld2 => ?_)
  · exact tm_below hHeld hBl
  clear hK K hHeld
  have hHeld := hHeld2
  clear hHeld2
  try simp only [Act.put, List.setIfInBounds_toArray, List.set_cons_zero, List.set_cons_succ]
  refine wpAnyH_take (i := 5) (oi := { dst := some 32, op := Go.Op.pick (Go.Operand.tmp 29) (Go.Operand.const (Go.Value.bool true)) (Go.Operand.tmp 31), type := 4, pos := "wide.go:51", after := #[{ on := 2, ground := Go.Ground.data }, { on := 4, ground := Go.Ground.data }, { on := 6, ground := Go.Ground.gcOnly Go.Departure.lateStores }], guard := none }) (v := ?_) rfl (by kernel_rfl) (by kernel_rfl) (by kernel_rfl) (fun _ _ _ h => h) (Or.inl ⟨by rfl, ?_⟩) (by assumption) ?_
  rotate_left
  · intro w hSw
    go_simp
    try with_reducible rfl
  try simp only [Act.put, List.setIfInBounds_toArray, List.set_cons_zero, List.set_cons_succ]
  refine wpAnyH_ready (rs := [6]) (by kernel_rfl) (by simp) ?_
  refine AllReadyH.cons (o := { dst := none, op := Go.Op.store 24 (Go.Operand.tmp 4) (Go.Operand.tmp 27), type := 0, pos := "wide.go:51", after := #[{ on := 0, ground := Go.Ground.data }, { on := 4, ground := Go.Ground.chain }, { on := 0, ground := Go.Ground.phase }, { on := 1, ground := Go.Ground.textOnly Go.Departure.lateStores }, { on := 2, ground := Go.Ground.textOnly Go.Departure.lateStores }, { on := 3, ground := Go.Ground.textOnly Go.Departure.lateStores }, { on := 4, ground := Go.Ground.textOnly Go.Departure.lateStoresUnsure }, { on := 5, ground := Go.Ground.textOnly Go.Departure.lateStores }], guard := none }) rfl (fun K hK => ?_) AllReadyH.nil
  have hA3 := tm_store hHeld 
  obtain ⟨z, hz⟩ := hHeld.2.2.1
  have k0 := hz.cell 0 (by omega)
  have k1 := hz.cell 1 (by omega)
  have k2 := hz.cell 2 (by omega)
  have k3 := hz.cell 3 (by omega)
  have f0 := hz.frozen 0
  have f1 := hz.frozen 1
  have f2 := hz.frozen 2
  have f3 := hz.frozen 3
  clear hz
  go_simp
  refine hK.out _ _ ?_ (fun hHeld2 => ?_)
  · exact hA3.1
  clear hK K hHeld
  have hHeld := hHeld2
  clear hHeld2
  try simp only [Act.put, List.setIfInBounds_toArray, List.set_cons_zero, List.set_cons_succ]
  clear k0 k1 k2 k3 f0 f1 f2 f3
  refine wpAnyH_take (i := 7) (oi := { dst := some 5, op := Go.Op.assign (Go.Operand.tmp 32), type := 4, pos := "wide.go:51", after := #[{ on := 5, ground := Go.Ground.data }, { on := 6, ground := Go.Ground.chain }, { on := 0, ground := Go.Ground.phase }, { on := 1, ground := Go.Ground.phase }, { on := 2, ground := Go.Ground.phase }, { on := 3, ground := Go.Ground.phase }, { on := 4, ground := Go.Ground.phase }, { on := 5, ground := Go.Ground.phase }, { on := 6, ground := Go.Ground.phase }], guard := none }) (v := ?_) rfl (by kernel_rfl) (by kernel_rfl) (by kernel_rfl) (fun _ _ _ h => h) (Or.inl ⟨by rfl, ?_⟩) (by assumption) ?_
  rotate_left
  · intro w hSw
    go_simp
    try with_reducible rfl
  try simp only [Act.put, List.setIfInBounds_toArray, List.set_cons_zero, List.set_cons_succ]
  refine wpAnyH_done (by kernel_rfl) ?_ _
  obtain ⟨hA4, hZ⟩ := hA3
  go_wp2
  have k0 := hZ.cell 0 (by omega)
  have k1 := hZ.cell 1 (by omega)
  have k2 := hZ.cell 2 (by omega)
  have k3 := hZ.cell 3 (by omega)
  refine bodyPost_ret (v := .tuple #[.agg #[.int .u64 (lo 0), .int .u64 (lo 1), .int .u64 (lo 2), .int .u64 (lo 3)], .bool (lowB lo)]) (by simp [results, Try.results14, go_sem, k0, k1, k2, k3]) rfl ⟨rfl, ?_⟩
  rw [hN]
  exact hA4.2.2.2.2.1

set_option maxRecDepth 100000 in
set_option maxHeartbeats 4000000 in
theorem mul_tf (a b lo hh : Nat → Nat) (ha : Wds a) (hb : Wds b) (hlo : Wds lo) (w : World)
    (hprod : ∀ W, Calls Try.prog 55 #[.agg #[.int .u64 (sizeR a 0), .int .u64 (sizeR a 1), .int .u64 (sizeR a 2), .int .u64 (sizeR a 3)], .agg #[.int .u64 (sizeR b 0), .int .u64 (sizeR b 1), .int .u64 (sizeR b 2), .int .u64 (sizeR b 3)]] W fun e w' => e = .returned (.tuple #[.agg #[.int .u64 (lo 0), .int .u64 (lo 1), .int .u64 (lo 2), .int .u64 (lo 3)], .agg #[.int .u64 (hh 0), .int .u64 (hh 1), .int .u64 (hh 2), .int .u64 (hh 3)]]) ∧ Below W.heap.size W w')
    (hz : eqB hh Zr = false) (hg : (lowB a == lowB b) = false) :
    Calls Try.prog 14 #[.agg #[.int .u64 (a 0), .int .u64 (a 1), .int .u64 (a 2), .int .u64 (a 3)], .agg #[.int .u64 (b 0), .int .u64 (b 1), .int .u64 (b 2), .int .u64 (b 3)]] w fun e w' => e = .returned (.tuple #[.agg #[.int .u64 (negR lo 0), .int .u64 (negR lo 1), .int .u64 (negR lo 2), .int .u64 (negR lo 3)], .bool true]) ∧ Below w.heap.size w w' := by
  have heq : ∀ w, (Op.equalIn 10000 24 (.agg #[.int .u64 (hh 0), .int .u64 (hh 1), .int .u64 (hh 2), .int .u64 (hh 3)]) (.agg #[.int .u64 0, .int .u64 0, .int .u64 0, .int .u64 0])).run Try.prog w = .ok (eqB hh Zr) w := fun w => eq4 hh Zr w
  rw [hz] at heq
  clear hz
  obtain ⟨qa, hqa⟩ : ∃ q, lowB a = q := ⟨_, rfl⟩
  obtain ⟨qb, hqb⟩ : ∃ q, lowB b = q := ⟨_, rfl⟩
  rw [hqa, hqb] at hg
  have HA := Lib.hid hqa
  have HB := Lib.hid hqb
  clear hqa hqb
  have hS0 := sm_new a b w
  have HP := Lib.hid hprod
  clear hprod
  go_enter Try.func14, Try.ntmps14
  go_wp2
  obtain ⟨N, hN⟩ : ∃ N, w.heap.size = N := ⟨_, rfl⟩
  rw [hN] at hS0 ⊢
  refine Code.wp_mono ?_ (mul_first N w a b lo hh ha hb _ hS0 HP.out)
  rintro e a' W1 ⟨rfl, B6, B7, rfl, hS, h6, h7, hne, g6, g7⟩
  have k0 := h7.cell 0 (by omega)
  have k1 := h7.cell 1 (by omega)
  have k2 := h7.cell 2 (by omega)
  have k3 := h7.cell 3 (by omega)
  clear hS0
  go_wp2
  clear k0 k1 k2 k3
  have hT : Tm N w a b B6 lo W1 := ⟨hS.1, hS.2.1, ⟨_, hS.2.2.1⟩, h6, hS.2.2.2, g6⟩
  clear h7 hne g7 hS h6
  refine wp_region_held_drew (S := fun W' => Tm N w a b B6 lo W') (by kernel_rfl) (tm_drew hT) (fun hHeld => ?_)
  have hHeld0 := hHeld
  revert hHeld hHeld0
  generalize W1.drew = Wd
  intro hHeld hHeld0
  clear hHeld0
  refine wpAnyH_take (i := 0) (oi := { dst := some 22, op := Go.Op.load 24 (Go.Operand.tmp 2), type := 24, pos := "wide.go:50", after := #[], guard := none }) (v := ?_) rfl (by kernel_rfl) (by kernel_rfl) (by kernel_rfl) (fun _ _ _ h => h) (Or.inl ⟨by rfl, ?_⟩) (by assumption) ?_
  rotate_left
  · intro w hSw
    have k0 := hSw.1.cell 0 (by omega)
    have k1 := hSw.1.cell 1 (by omega)
    have k2 := hSw.1.cell 2 (by omega)
    have k3 := hSw.1.cell 3 (by omega)
    go_simp
    try with_reducible rfl
  try simp only [Act.put, List.setIfInBounds_toArray, List.set_cons_zero, List.set_cons_succ]
  refine wpAnyH_take (i := 2) (oi := { dst := some 24, op := Go.Op.load 24 (Go.Operand.tmp 3), type := 24, pos := "wide.go:50", after := #[], guard := none }) (v := ?_) rfl (by kernel_rfl) (by kernel_rfl) (by kernel_rfl) (fun _ _ _ h => h) (Or.inl ⟨by rfl, ?_⟩) (by assumption) ?_
  rotate_left
  · intro w hSw
    have k0 := hSw.2.1.cell 0 (by omega)
    have k1 := hSw.2.1.cell 1 (by omega)
    have k2 := hSw.2.1.cell 2 (by omega)
    have k3 := hSw.2.1.cell 3 (by omega)
    go_simp
    try with_reducible rfl
  try simp only [Act.put, List.setIfInBounds_toArray, List.set_cons_zero, List.set_cons_succ]
  refine wpAnyH_ready (rs := [1]) (by kernel_rfl) (by simp) ?_
  refine AllReadyH.cons (o := { dst := some 23, op := Go.Op.call { callee := Go.Callee.value (Go.Operand.func 48), args := #[Go.Operand.tmp 22], argTypes := #[24] }, type := 4, pos := "wide.go:50", after := #[{ on := 0, ground := Go.Ground.data }], guard := none }) rfl (fun K hK => ?_) AllReadyH.nil
  go_simp
  refine (below_is a qa (ha 3) HA.out _).mono ?_
  rintro e W5 ⟨rfl, hBl⟩
  refine hK.out _ _ ?_ (fun hHeld2 => ?_)
  · exact tm_below hHeld hBl
  clear hK K hHeld
  have hHeld := hHeld2
  clear hHeld2
  try simp only [Act.put, List.setIfInBounds_toArray, List.set_cons_zero, List.set_cons_succ]
  refine wpAnyH_ready (rs := [3]) (by kernel_rfl) (by simp) ?_
  refine AllReadyH.cons (o := { dst := some 25, op := Go.Op.call { callee := Go.Callee.value (Go.Operand.func 48), args := #[Go.Operand.tmp 24], argTypes := #[24] }, type := 4, pos := "wide.go:50", after := #[{ on := 2, ground := Go.Ground.data }, { on := 1, ground := Go.Ground.chain }], guard := none }) rfl (fun K hK => ?_) AllReadyH.nil
  go_simp
  refine (below_is b qb (hb 3) HB.out _).mono ?_
  rintro e W5 ⟨rfl, hBl⟩
  refine hK.out _ _ ?_ (fun hHeld2 => ?_)
  · exact tm_below hHeld hBl
  clear hK K hHeld
  have hHeld := hHeld2
  clear hHeld2
  try simp only [Act.put, List.setIfInBounds_toArray, List.set_cons_zero, List.set_cons_succ]
  refine wpAnyH_take (i := 4) (oi := { dst := some 26, op := Go.Op.binOp Go.BinOp.eql 4 (Go.Operand.tmp 23) (Go.Operand.tmp 25) 4, type := 4, pos := "wide.go:50", after := #[{ on := 1, ground := Go.Ground.data }, { on := 3, ground := Go.Ground.data }], guard := none }) (v := ?_) rfl (by kernel_rfl) (by kernel_rfl) (by kernel_rfl) (fun _ _ _ h => h) (Or.inl ⟨by rfl, ?_⟩) (by assumption) ?_
  rotate_left
  · intro w hSw
    go_simp
    try with_reducible rfl
  try simp only [Act.put, List.setIfInBounds_toArray, List.set_cons_zero, List.set_cons_succ]
  refine wpAnyH_done (by kernel_rfl) ?_ _
  clear hT
  have hT := hHeld
  clear hHeld
  have k0 := hT.2.2.2.1.cell 0 (by omega)
  have k1 := hT.2.2.2.1.cell 1 (by omega)
  have k2 := hT.2.2.2.1.cell 2 (by omega)
  have k3 := hT.2.2.2.1.cell 3 (by omega)
  go_wp2_with (go_at_call 16; refine (neg_x lo hlo _).mono ?_; rintro e W6 ⟨rfl, hBn⟩)
  clear k0 k1 k2 k3
  have hT6 := tm_new (tm_below hT hBn) (negR lo)
  clear hT hBn
  obtain ⟨B9, h9⟩ : ∃ B9, W6.heap.size = B9 := ⟨_, rfl⟩
  obtain ⟨W7, hW7⟩ : ∃ W7, W6.alloc (.cells #[.int .u64 (negR lo 0), .int .u64 (negR lo 1), .int .u64 (negR lo 2), .int .u64 (negR lo 3)] 24) = W7 := ⟨_, rfl⟩
  rw [h9] at hT6 ⊢
  rw [hW7] at hT6 ⊢
  clear hW7 h9
  refine wp_region_held_drew (S := fun W' => Tm N w a b B9 (negR lo) W') (by kernel_rfl) (tm_drew hT6) (fun hHeld => ?_)
  have hHeld0 := hHeld
  revert hHeld hHeld0
  generalize W7.drew = Wd
  intro hHeld hHeld0
  clear hHeld0
  refine wpAnyH_take (i := 0) (oi := { dst := some 38, op := Go.Op.load 24 (Go.Operand.tmp 9), type := 24, pos := "wide.go:55", after := #[], guard := none }) (v := ?_) rfl (by kernel_rfl) (by kernel_rfl) (by kernel_rfl) (fun _ _ _ h => h) (Or.inl ⟨by rfl, ?_⟩) (by assumption) ?_
  rotate_left
  · intro w hSw
    have k0 := hSw.2.2.2.1.cell 0 (by omega)
    have k1 := hSw.2.2.2.1.cell 1 (by omega)
    have k2 := hSw.2.2.2.1.cell 2 (by omega)
    have k3 := hSw.2.2.2.1.cell 3 (by omega)
    go_simp
    try with_reducible rfl
  try simp only [Act.put, List.setIfInBounds_toArray, List.set_cons_zero, List.set_cons_succ]
  refine wpAnyH_take (i := 1) (oi := { dst := some 39, op := Go.Op.move (Go.Operand.tmp 8), type := 4, pos := "wide.go:55", after := #[], guard := none }) (v := ?_) rfl (by kernel_rfl) (by kernel_rfl) (by kernel_rfl) (fun _ _ _ h => h) (Or.inl ⟨by rfl, ?_⟩) (by assumption) ?_
  rotate_left
  · intro w hSw
    go_simp
    try with_reducible rfl
  try simp only [Act.put, List.setIfInBounds_toArray, List.set_cons_zero, List.set_cons_succ]
  refine wpAnyH_take (i := 2) (oi := { dst := some 40, op := Go.Op.move (Go.Operand.tmp 39), type := 4, pos := "wide.go:55", after := #[{ on := 1, ground := Go.Ground.data }], guard := none }) (v := ?_) rfl (by kernel_rfl) (by kernel_rfl) (by kernel_rfl) (fun _ _ _ h => h) (Or.inl ⟨by rfl, ?_⟩) (by assumption) ?_
  rotate_left
  · intro w hSw
    go_simp
    try with_reducible rfl
  try simp only [Act.put, List.setIfInBounds_toArray, List.set_cons_zero, List.set_cons_succ]
  refine wpAnyH_take (i := 3) (oi := { dst := some 41, op := Go.Op.load 24 (Go.Operand.tmp 9), type := 24, pos := "wide.go:55", after := #[{ on := 2, ground := Go.Ground.guard }], guard := some (2, false) }) (v := undef) rfl (by kernel_rfl) (by kernel_rfl) (by kernel_rfl) (fun _ _ _ h => h) (Or.inr ⟨by rfl, rfl⟩) (by assumption) ?_
  try simp only [Act.put, List.setIfInBounds_toArray, List.set_cons_zero, List.set_cons_succ]
  refine wpAnyH_ready (rs := [4]) (by kernel_rfl) (by simp) ?_
  refine AllReadyH.cons (o := { dst := some 42, op := Go.Op.call { callee := Go.Callee.value (Go.Operand.func 26), args := #[Go.Operand.tmp 41], argTypes := #[24] }, type := 3, pos := "wide.go:55", after := #[{ on := 3, ground := Go.Ground.data }, { on := 2, ground := Go.Ground.chain }, { on := 2, ground := Go.Ground.guard }], guard := some (2, false) }) rfl (fun K hK => ?_) AllReadyH.nil
  go_simp
  refine hK.out _ _ ?_ (fun hHeld2 => ?_)
  · exact hHeld
  clear hK K hHeld
  have hHeld := hHeld2
  clear hHeld2
  try simp only [Act.put, List.setIfInBounds_toArray, List.set_cons_zero, List.set_cons_succ]
  refine wpAnyH_take (i := 5) (oi := { dst := some 43, op := Go.Op.binOp Go.BinOp.gtr 3 (Go.Operand.tmp 42) (Go.Operand.const (Go.Value.int Go.IntKind.i64 0)) 3, type := 4, pos := "wide.go:55", after := #[{ on := 4, ground := Go.Ground.data }, { on := 2, ground := Go.Ground.guard }, { on := 7, ground := Go.Ground.gcOnly Go.Departure.lateStores }], guard := some (2, false) }) (v := undef) rfl (by kernel_rfl) (by kernel_rfl) (by kernel_rfl) (fun _ _ _ h => h) (Or.inr ⟨by rfl, rfl⟩) (by assumption) ?_
  try simp only [Act.put, List.setIfInBounds_toArray, List.set_cons_zero, List.set_cons_succ]
  refine wpAnyH_take (i := 6) (oi := { dst := some 44, op := Go.Op.pick (Go.Operand.tmp 40) (Go.Operand.const (Go.Value.bool true)) (Go.Operand.tmp 43), type := 4, pos := "wide.go:55", after := #[{ on := 2, ground := Go.Ground.data }, { on := 5, ground := Go.Ground.data }, { on := 7, ground := Go.Ground.gcOnly Go.Departure.lateStores }], guard := none }) (v := ?_) rfl (by kernel_rfl) (by kernel_rfl) (by kernel_rfl) (fun _ _ _ h => h) (Or.inl ⟨by rfl, ?_⟩) (by assumption) ?_
  rotate_left
  · intro w hSw
    go_simp
    try with_reducible rfl
  try simp only [Act.put, List.setIfInBounds_toArray, List.set_cons_zero, List.set_cons_succ]
  refine wpAnyH_ready (rs := [7]) (by kernel_rfl) (by simp) ?_
  refine AllReadyH.cons (o := { dst := none, op := Go.Op.store 24 (Go.Operand.tmp 4) (Go.Operand.tmp 38), type := 0, pos := "wide.go:55", after := #[{ on := 0, ground := Go.Ground.data }, { on := 4, ground := Go.Ground.chain }, { on := 0, ground := Go.Ground.phase }, { on := 1, ground := Go.Ground.textOnly Go.Departure.lateStores }, { on := 2, ground := Go.Ground.textOnly Go.Departure.lateStores }, { on := 3, ground := Go.Ground.textOnly Go.Departure.lateStores }, { on := 4, ground := Go.Ground.textOnly Go.Departure.lateStoresUnsure }, { on := 5, ground := Go.Ground.textOnly Go.Departure.lateStores }, { on := 6, ground := Go.Ground.textOnly Go.Departure.lateStores }], guard := none }) rfl (fun K hK => ?_) AllReadyH.nil
  have hA3 := tm_store hHeld 
  obtain ⟨z, hz⟩ := hHeld.2.2.1
  have k0 := hz.cell 0 (by omega)
  have k1 := hz.cell 1 (by omega)
  have k2 := hz.cell 2 (by omega)
  have k3 := hz.cell 3 (by omega)
  have f0 := hz.frozen 0
  have f1 := hz.frozen 1
  have f2 := hz.frozen 2
  have f3 := hz.frozen 3
  clear hz
  go_simp
  refine hK.out _ _ ?_ (fun hHeld2 => ?_)
  · exact hA3.1
  clear hK K hHeld
  have hHeld := hHeld2
  clear hHeld2
  try simp only [Act.put, List.setIfInBounds_toArray, List.set_cons_zero, List.set_cons_succ]
  clear k0 k1 k2 k3 f0 f1 f2 f3
  refine wpAnyH_take (i := 8) (oi := { dst := some 5, op := Go.Op.assign (Go.Operand.tmp 44), type := 4, pos := "wide.go:55", after := #[{ on := 6, ground := Go.Ground.data }, { on := 7, ground := Go.Ground.chain }, { on := 0, ground := Go.Ground.phase }, { on := 1, ground := Go.Ground.phase }, { on := 2, ground := Go.Ground.phase }, { on := 3, ground := Go.Ground.phase }, { on := 4, ground := Go.Ground.phase }, { on := 5, ground := Go.Ground.phase }, { on := 6, ground := Go.Ground.phase }, { on := 7, ground := Go.Ground.phase }], guard := none }) (v := ?_) rfl (by kernel_rfl) (by kernel_rfl) (by kernel_rfl) (fun _ _ _ h => h) (Or.inl ⟨by rfl, ?_⟩) (by assumption) ?_
  rotate_left
  · intro w hSw
    go_simp
    try with_reducible rfl
  try simp only [Act.put, List.setIfInBounds_toArray, List.set_cons_zero, List.set_cons_succ]
  refine wpAnyH_done (by kernel_rfl) ?_ _
  obtain ⟨hA4, hZ⟩ := hA3
  go_wp2
  have k0 := hZ.cell 0 (by omega)
  have k1 := hZ.cell 1 (by omega)
  have k2 := hZ.cell 2 (by omega)
  have k3 := hZ.cell 3 (by omega)
  refine bodyPost_ret (v := .tuple #[.agg #[.int .u64 (negR lo 0), .int .u64 (negR lo 1), .int .u64 (negR lo 2), .int .u64 (negR lo 3)], .bool true]) (by simp [results, Try.results14, go_sem, k0, k1, k2, k3]) rfl ⟨rfl, ?_⟩
  rw [hN]
  exact hA4.2.2.2.2.1

set_option maxRecDepth 100000 in
set_option maxHeartbeats 4000000 in
theorem mul_ff (a b lo hh : Nat → Nat) (ha : Wds a) (hb : Wds b) (hlo : Wds lo) (w : World)
    (hprod : ∀ W, Calls Try.prog 55 #[.agg #[.int .u64 (sizeR a 0), .int .u64 (sizeR a 1), .int .u64 (sizeR a 2), .int .u64 (sizeR a 3)], .agg #[.int .u64 (sizeR b 0), .int .u64 (sizeR b 1), .int .u64 (sizeR b 2), .int .u64 (sizeR b 3)]] W fun e w' => e = .returned (.tuple #[.agg #[.int .u64 (lo 0), .int .u64 (lo 1), .int .u64 (lo 2), .int .u64 (lo 3)], .agg #[.int .u64 (hh 0), .int .u64 (hh 1), .int .u64 (hh 2), .int .u64 (hh 3)]]) ∧ Below W.heap.size W w')
    (hz : eqB hh Zr = true) (hg : (lowB a == lowB b) = false) :
    Calls Try.prog 14 #[.agg #[.int .u64 (a 0), .int .u64 (a 1), .int .u64 (a 2), .int .u64 (a 3)], .agg #[.int .u64 (b 0), .int .u64 (b 1), .int .u64 (b 2), .int .u64 (b 3)]] w fun e w' => e = .returned (.tuple #[.agg #[.int .u64 (negR lo 0), .int .u64 (negR lo 1), .int .u64 (negR lo 2), .int .u64 (negR lo 3)], .bool (decide (0 < signI (negR lo)))]) ∧ Below w.heap.size w w' := by
  have heq : ∀ w, (Op.equalIn 10000 24 (.agg #[.int .u64 (hh 0), .int .u64 (hh 1), .int .u64 (hh 2), .int .u64 (hh 3)]) (.agg #[.int .u64 0, .int .u64 0, .int .u64 0, .int .u64 0])).run Try.prog w = .ok (eqB hh Zr) w := fun w => eq4 hh Zr w
  rw [hz] at heq
  clear hz
  obtain ⟨qa, hqa⟩ : ∃ q, lowB a = q := ⟨_, rfl⟩
  obtain ⟨qb, hqb⟩ : ∃ q, lowB b = q := ⟨_, rfl⟩
  rw [hqa, hqb] at hg
  have HA := Lib.hid hqa
  have HB := Lib.hid hqb
  clear hqa hqb
  have hS0 := sm_new a b w
  have HP := Lib.hid hprod
  clear hprod
  go_enter Try.func14, Try.ntmps14
  go_wp2
  obtain ⟨N, hN⟩ : ∃ N, w.heap.size = N := ⟨_, rfl⟩
  rw [hN] at hS0 ⊢
  refine Code.wp_mono ?_ (mul_first N w a b lo hh ha hb _ hS0 HP.out)
  rintro e a' W1 ⟨rfl, B6, B7, rfl, hS, h6, h7, hne, g6, g7⟩
  have k0 := h7.cell 0 (by omega)
  have k1 := h7.cell 1 (by omega)
  have k2 := h7.cell 2 (by omega)
  have k3 := h7.cell 3 (by omega)
  clear hS0
  go_wp2
  clear k0 k1 k2 k3
  have hT : Tm N w a b B6 lo W1 := ⟨hS.1, hS.2.1, ⟨_, hS.2.2.1⟩, h6, hS.2.2.2, g6⟩
  clear h7 hne g7 hS h6
  refine wp_region_held_drew (S := fun W' => Tm N w a b B6 lo W') (by kernel_rfl) (tm_drew hT) (fun hHeld => ?_)
  have hHeld0 := hHeld
  revert hHeld hHeld0
  generalize W1.drew = Wd
  intro hHeld hHeld0
  clear hHeld0
  refine wpAnyH_take (i := 0) (oi := { dst := some 22, op := Go.Op.load 24 (Go.Operand.tmp 2), type := 24, pos := "wide.go:50", after := #[], guard := none }) (v := ?_) rfl (by kernel_rfl) (by kernel_rfl) (by kernel_rfl) (fun _ _ _ h => h) (Or.inl ⟨by rfl, ?_⟩) (by assumption) ?_
  rotate_left
  · intro w hSw
    have k0 := hSw.1.cell 0 (by omega)
    have k1 := hSw.1.cell 1 (by omega)
    have k2 := hSw.1.cell 2 (by omega)
    have k3 := hSw.1.cell 3 (by omega)
    go_simp
    try with_reducible rfl
  try simp only [Act.put, List.setIfInBounds_toArray, List.set_cons_zero, List.set_cons_succ]
  refine wpAnyH_take (i := 2) (oi := { dst := some 24, op := Go.Op.load 24 (Go.Operand.tmp 3), type := 24, pos := "wide.go:50", after := #[], guard := none }) (v := ?_) rfl (by kernel_rfl) (by kernel_rfl) (by kernel_rfl) (fun _ _ _ h => h) (Or.inl ⟨by rfl, ?_⟩) (by assumption) ?_
  rotate_left
  · intro w hSw
    have k0 := hSw.2.1.cell 0 (by omega)
    have k1 := hSw.2.1.cell 1 (by omega)
    have k2 := hSw.2.1.cell 2 (by omega)
    have k3 := hSw.2.1.cell 3 (by omega)
    go_simp
    try with_reducible rfl
  try simp only [Act.put, List.setIfInBounds_toArray, List.set_cons_zero, List.set_cons_succ]
  refine wpAnyH_ready (rs := [1]) (by kernel_rfl) (by simp) ?_
  refine AllReadyH.cons (o := { dst := some 23, op := Go.Op.call { callee := Go.Callee.value (Go.Operand.func 48), args := #[Go.Operand.tmp 22], argTypes := #[24] }, type := 4, pos := "wide.go:50", after := #[{ on := 0, ground := Go.Ground.data }], guard := none }) rfl (fun K hK => ?_) AllReadyH.nil
  go_simp
  refine (below_is a qa (ha 3) HA.out _).mono ?_
  rintro e W5 ⟨rfl, hBl⟩
  refine hK.out _ _ ?_ (fun hHeld2 => ?_)
  · exact tm_below hHeld hBl
  clear hK K hHeld
  have hHeld := hHeld2
  clear hHeld2
  try simp only [Act.put, List.setIfInBounds_toArray, List.set_cons_zero, List.set_cons_succ]
  refine wpAnyH_ready (rs := [3]) (by kernel_rfl) (by simp) ?_
  refine AllReadyH.cons (o := { dst := some 25, op := Go.Op.call { callee := Go.Callee.value (Go.Operand.func 48), args := #[Go.Operand.tmp 24], argTypes := #[24] }, type := 4, pos := "wide.go:50", after := #[{ on := 2, ground := Go.Ground.data }, { on := 1, ground := Go.Ground.chain }], guard := none }) rfl (fun K hK => ?_) AllReadyH.nil
  go_simp
  refine (below_is b qb (hb 3) HB.out _).mono ?_
  rintro e W5 ⟨rfl, hBl⟩
  refine hK.out _ _ ?_ (fun hHeld2 => ?_)
  · exact tm_below hHeld hBl
  clear hK K hHeld
  have hHeld := hHeld2
  clear hHeld2
  try simp only [Act.put, List.setIfInBounds_toArray, List.set_cons_zero, List.set_cons_succ]
  refine wpAnyH_take (i := 4) (oi := { dst := some 26, op := Go.Op.binOp Go.BinOp.eql 4 (Go.Operand.tmp 23) (Go.Operand.tmp 25) 4, type := 4, pos := "wide.go:50", after := #[{ on := 1, ground := Go.Ground.data }, { on := 3, ground := Go.Ground.data }], guard := none }) (v := ?_) rfl (by kernel_rfl) (by kernel_rfl) (by kernel_rfl) (fun _ _ _ h => h) (Or.inl ⟨by rfl, ?_⟩) (by assumption) ?_
  rotate_left
  · intro w hSw
    go_simp
    try with_reducible rfl
  try simp only [Act.put, List.setIfInBounds_toArray, List.set_cons_zero, List.set_cons_succ]
  refine wpAnyH_done (by kernel_rfl) ?_ _
  clear hT
  have hT := hHeld
  clear hHeld
  have k0 := hT.2.2.2.1.cell 0 (by omega)
  have k1 := hT.2.2.2.1.cell 1 (by omega)
  have k2 := hT.2.2.2.1.cell 2 (by omega)
  have k3 := hT.2.2.2.1.cell 3 (by omega)
  go_wp2_with (go_at_call 16; refine (neg_x lo hlo _).mono ?_; rintro e W6 ⟨rfl, hBn⟩)
  clear k0 k1 k2 k3
  have hT6 := tm_new (tm_below hT hBn) (negR lo)
  clear hT hBn
  obtain ⟨B9, h9⟩ : ∃ B9, W6.heap.size = B9 := ⟨_, rfl⟩
  obtain ⟨W7, hW7⟩ : ∃ W7, W6.alloc (.cells #[.int .u64 (negR lo 0), .int .u64 (negR lo 1), .int .u64 (negR lo 2), .int .u64 (negR lo 3)] 24) = W7 := ⟨_, rfl⟩
  rw [h9] at hT6 ⊢
  rw [hW7] at hT6 ⊢
  clear hW7 h9
  refine wp_region_held_drew (S := fun W' => Tm N w a b B9 (negR lo) W') (by kernel_rfl) (tm_drew hT6) (fun hHeld => ?_)
  have hHeld0 := hHeld
  revert hHeld hHeld0
  generalize W7.drew = Wd
  intro hHeld hHeld0
  clear hHeld0
  refine wpAnyH_take (i := 0) (oi := { dst := some 38, op := Go.Op.load 24 (Go.Operand.tmp 9), type := 24, pos := "wide.go:55", after := #[], guard := none }) (v := ?_) rfl (by kernel_rfl) (by kernel_rfl) (by kernel_rfl) (fun _ _ _ h => h) (Or.inl ⟨by rfl, ?_⟩) (by assumption) ?_
  rotate_left
  · intro w hSw
    have k0 := hSw.2.2.2.1.cell 0 (by omega)
    have k1 := hSw.2.2.2.1.cell 1 (by omega)
    have k2 := hSw.2.2.2.1.cell 2 (by omega)
    have k3 := hSw.2.2.2.1.cell 3 (by omega)
    go_simp
    try with_reducible rfl
  try simp only [Act.put, List.setIfInBounds_toArray, List.set_cons_zero, List.set_cons_succ]
  refine wpAnyH_take (i := 1) (oi := { dst := some 39, op := Go.Op.move (Go.Operand.tmp 8), type := 4, pos := "wide.go:55", after := #[], guard := none }) (v := ?_) rfl (by kernel_rfl) (by kernel_rfl) (by kernel_rfl) (fun _ _ _ h => h) (Or.inl ⟨by rfl, ?_⟩) (by assumption) ?_
  rotate_left
  · intro w hSw
    go_simp
    try with_reducible rfl
  try simp only [Act.put, List.setIfInBounds_toArray, List.set_cons_zero, List.set_cons_succ]
  refine wpAnyH_take (i := 2) (oi := { dst := some 40, op := Go.Op.move (Go.Operand.tmp 39), type := 4, pos := "wide.go:55", after := #[{ on := 1, ground := Go.Ground.data }], guard := none }) (v := ?_) rfl (by kernel_rfl) (by kernel_rfl) (by kernel_rfl) (fun _ _ _ h => h) (Or.inl ⟨by rfl, ?_⟩) (by assumption) ?_
  rotate_left
  · intro w hSw
    go_simp
    try with_reducible rfl
  try simp only [Act.put, List.setIfInBounds_toArray, List.set_cons_zero, List.set_cons_succ]
  refine wpAnyH_take (i := 3) (oi := { dst := some 41, op := Go.Op.load 24 (Go.Operand.tmp 9), type := 24, pos := "wide.go:55", after := #[{ on := 2, ground := Go.Ground.guard }], guard := some (2, false) }) (v := ?_) rfl (by kernel_rfl) (by kernel_rfl) (by kernel_rfl) (fun _ _ _ h => h) (Or.inl ⟨by rfl, ?_⟩) (by assumption) ?_
  rotate_left
  · intro w hSw
    have k0 := hSw.2.2.2.1.cell 0 (by omega)
    have k1 := hSw.2.2.2.1.cell 1 (by omega)
    have k2 := hSw.2.2.2.1.cell 2 (by omega)
    have k3 := hSw.2.2.2.1.cell 3 (by omega)
    go_simp
    try with_reducible rfl
  try simp only [Act.put, List.setIfInBounds_toArray, List.set_cons_zero, List.set_cons_succ]
  refine wpAnyH_ready (rs := [4]) (by kernel_rfl) (by simp) ?_
  refine AllReadyH.cons (o := { dst := some 42, op := Go.Op.call { callee := Go.Callee.value (Go.Operand.func 26), args := #[Go.Operand.tmp 41], argTypes := #[24] }, type := 3, pos := "wide.go:55", after := #[{ on := 3, ground := Go.Ground.data }, { on := 2, ground := Go.Ground.chain }, { on := 2, ground := Go.Ground.guard }], guard := some (2, false) }) rfl (fun K hK => ?_) AllReadyH.nil
  go_simp
  refine (sign_x (negR lo) (negR_words lo) _).mono ?_
  rintro e W5 ⟨rfl, hBl⟩
  refine hK.out _ _ ?_ (fun hHeld2 => ?_)
  · exact tm_below hHeld hBl
  clear hK K hHeld
  have hHeld := hHeld2
  clear hHeld2
  try simp only [Act.put, List.setIfInBounds_toArray, List.set_cons_zero, List.set_cons_succ]
  refine wpAnyH_take (i := 5) (oi := { dst := some 43, op := Go.Op.binOp Go.BinOp.gtr 3 (Go.Operand.tmp 42) (Go.Operand.const (Go.Value.int Go.IntKind.i64 0)) 3, type := 4, pos := "wide.go:55", after := #[{ on := 4, ground := Go.Ground.data }, { on := 2, ground := Go.Ground.guard }, { on := 7, ground := Go.Ground.gcOnly Go.Departure.lateStores }], guard := some (2, false) }) (v := ?_) rfl (by kernel_rfl) (by kernel_rfl) (by kernel_rfl) (fun _ _ _ h => h) (Or.inl ⟨by rfl, ?_⟩) (by assumption) ?_
  rotate_left
  · intro w hSw
    go_simp
    try with_reducible rfl
  try simp only [Act.put, List.setIfInBounds_toArray, List.set_cons_zero, List.set_cons_succ]
  refine wpAnyH_take (i := 6) (oi := { dst := some 44, op := Go.Op.pick (Go.Operand.tmp 40) (Go.Operand.const (Go.Value.bool true)) (Go.Operand.tmp 43), type := 4, pos := "wide.go:55", after := #[{ on := 2, ground := Go.Ground.data }, { on := 5, ground := Go.Ground.data }, { on := 7, ground := Go.Ground.gcOnly Go.Departure.lateStores }], guard := none }) (v := ?_) rfl (by kernel_rfl) (by kernel_rfl) (by kernel_rfl) (fun _ _ _ h => h) (Or.inl ⟨by rfl, ?_⟩) (by assumption) ?_
  rotate_left
  · intro w hSw
    go_simp
    try with_reducible rfl
  try simp only [Act.put, List.setIfInBounds_toArray, List.set_cons_zero, List.set_cons_succ]
  refine wpAnyH_ready (rs := [7]) (by kernel_rfl) (by simp) ?_
  refine AllReadyH.cons (o := { dst := none, op := Go.Op.store 24 (Go.Operand.tmp 4) (Go.Operand.tmp 38), type := 0, pos := "wide.go:55", after := #[{ on := 0, ground := Go.Ground.data }, { on := 4, ground := Go.Ground.chain }, { on := 0, ground := Go.Ground.phase }, { on := 1, ground := Go.Ground.textOnly Go.Departure.lateStores }, { on := 2, ground := Go.Ground.textOnly Go.Departure.lateStores }, { on := 3, ground := Go.Ground.textOnly Go.Departure.lateStores }, { on := 4, ground := Go.Ground.textOnly Go.Departure.lateStoresUnsure }, { on := 5, ground := Go.Ground.textOnly Go.Departure.lateStores }, { on := 6, ground := Go.Ground.textOnly Go.Departure.lateStores }], guard := none }) rfl (fun K hK => ?_) AllReadyH.nil
  have hA3 := tm_store hHeld 
  obtain ⟨z, hz⟩ := hHeld.2.2.1
  have k0 := hz.cell 0 (by omega)
  have k1 := hz.cell 1 (by omega)
  have k2 := hz.cell 2 (by omega)
  have k3 := hz.cell 3 (by omega)
  have f0 := hz.frozen 0
  have f1 := hz.frozen 1
  have f2 := hz.frozen 2
  have f3 := hz.frozen 3
  clear hz
  go_simp
  refine hK.out _ _ ?_ (fun hHeld2 => ?_)
  · exact hA3.1
  clear hK K hHeld
  have hHeld := hHeld2
  clear hHeld2
  try simp only [Act.put, List.setIfInBounds_toArray, List.set_cons_zero, List.set_cons_succ]
  clear k0 k1 k2 k3 f0 f1 f2 f3
  refine wpAnyH_take (i := 8) (oi := { dst := some 5, op := Go.Op.assign (Go.Operand.tmp 44), type := 4, pos := "wide.go:55", after := #[{ on := 6, ground := Go.Ground.data }, { on := 7, ground := Go.Ground.chain }, { on := 0, ground := Go.Ground.phase }, { on := 1, ground := Go.Ground.phase }, { on := 2, ground := Go.Ground.phase }, { on := 3, ground := Go.Ground.phase }, { on := 4, ground := Go.Ground.phase }, { on := 5, ground := Go.Ground.phase }, { on := 6, ground := Go.Ground.phase }, { on := 7, ground := Go.Ground.phase }], guard := none }) (v := ?_) rfl (by kernel_rfl) (by kernel_rfl) (by kernel_rfl) (fun _ _ _ h => h) (Or.inl ⟨by rfl, ?_⟩) (by assumption) ?_
  rotate_left
  · intro w hSw
    go_simp
    try with_reducible rfl
  try simp only [Act.put, List.setIfInBounds_toArray, List.set_cons_zero, List.set_cons_succ]
  refine wpAnyH_done (by kernel_rfl) ?_ _
  obtain ⟨hA4, hZ⟩ := hA3
  go_wp2
  have k0 := hZ.cell 0 (by omega)
  have k1 := hZ.cell 1 (by omega)
  have k2 := hZ.cell 2 (by omega)
  have k3 := hZ.cell 3 (by omega)
  refine bodyPost_ret (v := .tuple #[.agg #[.int .u64 (negR lo 0), .int .u64 (negR lo 1), .int .u64 (negR lo 2), .int .u64 (negR lo 3)], .bool (decide (0 < signI (negR lo)))]) (by simp [results, Try.results14, go_sem, k0, k1, k2, k3]) rfl ⟨rfl, ?_⟩
  rw [hN]
  exact hA4.2.2.2.2.1


def mulLo (a b : Nat → Nat) : Nat → Nat := outSt (sizeR a) (sizeR b) (List.finRange 4)
def mulR (a b : Nat → Nat) : Nat → Nat := if (lowB a == lowB b) = true then mulLo a b else negR (mulLo a b)
def mulO (a b : Nat → Nat) : Bool := if eqB (hiR (mulLo a b)) Zr = true then (if (lowB a == lowB b) = true then lowB (mulLo a b) else decide (0 < signI (negR (mulLo a b)))) else true

theorem mulLo_words (a b : Nat → Nat) (ha : Wds a) (hb : Wds b) : Wds (mulLo a b) := outSt_words (sizeR_words a ha) (sizeR_words b hb) _
theorem mulR_words (a b : Nat → Nat) (ha : Wds a) (hb : Wds b) : Wds (mulR a b) := by
  unfold mulR
  split
  · exact mulLo_words a b ha hb
  · exact negR_words _

theorem mul_x (a b : Nat → Nat) (ha : Wds a) (hb : Wds b) (w : World) : Calls Try.prog 14 #[.agg #[.int .u64 (a 0), .int .u64 (a 1), .int .u64 (a 2), .int .u64 (a 3)], .agg #[.int .u64 (b 0), .int .u64 (b 1), .int .u64 (b 2), .int .u64 (b 3)]] w fun e w' => e = .returned (.tuple #[.agg #[.int .u64 (mulR a b 0), .int .u64 (mulR a b 1), .int .u64 (mulR a b 2), .int .u64 (mulR a b 3)], .bool (mulO a b)]) ∧ Below w.heap.size w w' := by
  have hlo := mulLo_words a b ha hb
  have hprod : ∀ W, Calls Try.prog 55 #[.agg #[.int .u64 (sizeR a 0), .int .u64 (sizeR a 1), .int .u64 (sizeR a 2), .int .u64 (sizeR a 3)], .agg #[.int .u64 (sizeR b 0), .int .u64 (sizeR b 1), .int .u64 (sizeR b 2), .int .u64 (sizeR b 3)]] W fun e w' => e = .returned (.tuple #[.agg #[.int .u64 (mulLo a b 0), .int .u64 (mulLo a b 1), .int .u64 (mulLo a b 2), .int .u64 (mulLo a b 3)], .agg #[.int .u64 (hiR (mulLo a b) 0), .int .u64 (hiR (mulLo a b) 1), .int .u64 (hiR (mulLo a b) 2), .int .u64 (hiR (mulLo a b) 3)]]) ∧ Below W.heap.size W w' :=
    fun W => product_x (sizeR a) (sizeR b) (sizeR_words a ha) (sizeR_words b hb) W
  unfold mulR mulO
  cases hg : (lowB a == lowB b) with
  | true =>
    cases hz : eqB (hiR (mulLo a b)) Zr with
    | true => exact mul_ft a b _ _ ha hb hlo w hprod hz hg
    | false => exact mul_tt a b _ _ ha hb hlo w hprod hz hg
  | false =>
    cases hz : eqB (hiR (mulLo a b)) Zr with
    | true => exact mul_ff a b _ _ ha hb hlo w hprod hz hg
    | false => exact mul_tf a b _ _ ha hb hlo w hprod hz hg

end Go.Proofs.Ytecgclkjglkkbaa
