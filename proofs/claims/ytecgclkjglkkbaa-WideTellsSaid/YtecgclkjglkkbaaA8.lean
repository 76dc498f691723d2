/- The first statement of Mul of package wide, in whatever order. -/
import Derived.Test.YtecgclkjglkkbaaA7
namespace Go.Proofs.Ytecgclkjglkkbaa
open Go Go.RowKit Go.Shelf
set_option linter.unusedSimpArgs false
set_option linter.unusedVariables false

/-- The blocks of Mul. -/
def Sm (N : Nat) (w : World) (a b : Nat → Nat) (W : World) : Prop := At4 W N a ∧ At4 W (N + 1) b ∧ At4 W (N + 1 + 1) Zr ∧ Below N w W
theorem sm_below {N : Nat} {w W W1 : World} {a b : Nat → Nat} (h : Sm N w a b W) (hB : Below W.heap.size W W1) : Sm N w a b W1 := by
  obtain ⟨h1, h2, h3, h6⟩ := h
  have := h1.lt
  exact ⟨h1.below hB, h2.below hB, h3.below hB, h6.trans (hB.mono (by omega))⟩
theorem sm_alloc {N : Nat} {w W : World} {a b : Nat → Nat} (h : Sm N w a b W) (o : Obj) : Sm N w a b (W.alloc o) := sm_below h ((Below.refl _ W).alloc (Nat.le_refl _) o)
theorem sm_drew {N : Nat} {w W : World} {a b : Nat → Nat} (h : Sm N w a b W) : Sm N w a b W.drew := ⟨h.1, h.2.1, h.2.2.1, h.2.2.2.drew⟩
theorem sm_set {N : Nat} {w W : World} {a b : Nat → Nat} (h : Sm N w a b W) (B : Nat) (hB : N + 1 + 1 < B) (v0 v1 v2 v3 : Value) :
    Sm N w a b ((((W.setCell ⟨B, 0, none⟩ v0).setCell ⟨B, 1, none⟩ v1).setCell ⟨B, 2, none⟩ v2).setCell ⟨B, 3, none⟩ v3) :=
  ⟨h.1.other4 (by omega) _ _ _ _, h.2.1.other4 (by omega) _ _ _ _, h.2.2.1.other4 (by omega) _ _ _ _, below4 h.2.2.2 (by omega) _ _ _ _⟩

set_option maxRecDepth 100000 in
set_option maxHeartbeats 4000000 in
theorem mul_first (N : Nat) (w : World) (a b lo hh : Nat → Nat) (ha : Wds a) (hb : Wds b) (W : World) (hS : Sm N w a b W)
    (hprod : ∀ W, Calls Try.prog 55 #[.agg #[.int .u64 (sizeR a 0), .int .u64 (sizeR a 1), .int .u64 (sizeR a 2), .int .u64 (sizeR a 3)], .agg #[.int .u64 (sizeR b 0), .int .u64 (sizeR b 1), .int .u64 (sizeR b 2), .int .u64 (sizeR b 3)]] W fun e w' => e = .returned (.tuple #[.agg #[.int .u64 (lo 0), .int .u64 (lo 1), .int .u64 (lo 2), .int .u64 (lo 3)], .agg #[.int .u64 (hh 0), .int .u64 (hh 1), .int .u64 (hh 2), .int .u64 (hh 3)]]) ∧ Below W.heap.size W w') :
    (Code.region 1 #[{ dst := some 12, op := Go.Op.load 24 (Go.Operand.tmp 2), type := 24, pos := "wide.go:48", after := #[], guard := none }, { dst := some 13, op := Go.Op.call { callee := Go.Callee.value (Go.Operand.func 56), args := #[Go.Operand.tmp 12], argTypes := #[24] }, type := 24, pos := "wide.go:48", after := #[{ on := 0, ground := Go.Ground.data }], guard := none }, { dst := some 14, op := Go.Op.load 24 (Go.Operand.tmp 3), type := 24, pos := "wide.go:48", after := #[], guard := none }, { dst := some 15, op := Go.Op.call { callee := Go.Callee.value (Go.Operand.func 56), args := #[Go.Operand.tmp 14], argTypes := #[24] }, type := 24, pos := "wide.go:48", after := #[{ on := 2, ground := Go.Ground.data }, { on := 1, ground := Go.Ground.chain }], guard := none }, { dst := some 16, op := Go.Op.call { callee := Go.Callee.value (Go.Operand.func 55), args := #[Go.Operand.tmp 13, Go.Operand.tmp 15], argTypes := #[24, 24] }, type := 58, pos := "wide.go:48", after := #[{ on := 1, ground := Go.Ground.data }, { on := 3, ground := Go.Ground.data }, { on := 3, ground := Go.Ground.chain }], guard := none }, { dst := some 11, op := Go.Op.move (Go.Operand.tmp 16), type := 58, pos := "wide.go:48", after := #[{ on := 4, ground := Go.Ground.data }], guard := none }, { dst := some 17, op := Go.Op.extract (Go.Operand.tmp 11) 0, type := 24, pos := "wide.go:48", after := #[{ on := 5, ground := Go.Ground.data }], guard := none }, { dst := some 18, op := Go.Op.extract (Go.Operand.tmp 11) 1, type := 24, pos := "wide.go:48", after := #[{ on := 5, ground := Go.Ground.data }, { on := 10, ground := Go.Ground.gcOnly Go.Departure.lateStores }], guard := none }, { dst := some 6, op := Go.Op.alloc 24, type := 0, pos := "wide.go:48", after := #[], guard := none }, { dst := some 7, op := Go.Op.alloc 24, type := 0, pos := "wide.go:48", after := #[], guard := none }, { dst := none, op := Go.Op.store 24 (Go.Operand.tmp 6) (Go.Operand.tmp 17), type := 0, pos := "wide.go:48", after := #[{ on := 8, ground := Go.Ground.data }, { on := 6, ground := Go.Ground.data }, { on := 4, ground := Go.Ground.chain }, { on := 0, ground := Go.Ground.phase }, { on := 1, ground := Go.Ground.phase }, { on := 2, ground := Go.Ground.phase }, { on := 3, ground := Go.Ground.phase }, { on := 4, ground := Go.Ground.phase }, { on := 5, ground := Go.Ground.phase }, { on := 6, ground := Go.Ground.phase }, { on := 7, ground := Go.Ground.textOnly Go.Departure.lateStores }, { on := 8, ground := Go.Ground.phase }, { on := 9, ground := Go.Ground.phase }], guard := none }, { dst := none, op := Go.Op.store 24 (Go.Operand.tmp 7) (Go.Operand.tmp 18), type := 0, pos := "wide.go:48", after := #[{ on := 9, ground := Go.Ground.data }, { on := 7, ground := Go.Ground.data }, { on := 10, ground := Go.Ground.chain }, { on := 0, ground := Go.Ground.phase }, { on := 1, ground := Go.Ground.phase }, { on := 2, ground := Go.Ground.phase }, { on := 3, ground := Go.Ground.phase }, { on := 4, ground := Go.Ground.phase }, { on := 5, ground := Go.Ground.phase }, { on := 6, ground := Go.Ground.phase }, { on := 7, ground := Go.Ground.phase }, { on := 8, ground := Go.Ground.phase }, { on := 9, ground := Go.Ground.phase }, { on := 10, ground := Go.Ground.phase }], guard := none }] true).wp Try.prog (fun e a' w' => e = Exit.normal ∧ ∃ B6 B7, a' = { tmps := #[.agg #[.int .u64 (a 0), .int .u64 (a 1), .int .u64 (a 2), .int .u64 (a 3)], .agg #[.int .u64 (b 0), .int .u64 (b 1), .int .u64 (b 2), .int .u64 (b 3)], .pointer (some ⟨N, 0, none⟩), .pointer (some ⟨N + 1, 0, none⟩), .pointer (some ⟨N + 1 + 1, 0, none⟩), .bool false, .pointer (some ⟨B6, 0, none⟩), .pointer (some ⟨B7, 0, none⟩), undef, undef, undef, .tuple #[.agg #[.int .u64 (lo 0), .int .u64 (lo 1), .int .u64 (lo 2), .int .u64 (lo 3)], .agg #[.int .u64 (hh 0), .int .u64 (hh 1), .int .u64 (hh 2), .int .u64 (hh 3)]], .agg #[.int .u64 (a 0), .int .u64 (a 1), .int .u64 (a 2), .int .u64 (a 3)], .agg #[.int .u64 (sizeR a 0), .int .u64 (sizeR a 1), .int .u64 (sizeR a 2), .int .u64 (sizeR a 3)], .agg #[.int .u64 (b 0), .int .u64 (b 1), .int .u64 (b 2), .int .u64 (b 3)], .agg #[.int .u64 (sizeR b 0), .int .u64 (sizeR b 1), .int .u64 (sizeR b 2), .int .u64 (sizeR b 3)], .tuple #[.agg #[.int .u64 (lo 0), .int .u64 (lo 1), .int .u64 (lo 2), .int .u64 (lo 3)], .agg #[.int .u64 (hh 0), .int .u64 (hh 1), .int .u64 (hh 2), .int .u64 (hh 3)]], .agg #[.int .u64 (lo 0), .int .u64 (lo 1), .int .u64 (lo 2), .int .u64 (lo 3)], .agg #[.int .u64 (hh 0), .int .u64 (hh 1), .int .u64 (hh 2), .int .u64 (hh 3)], undef, undef, undef, undef, undef, undef, undef, undef, undef, undef, undef, undef, undef, undef, undef, undef, undef, undef, undef, undef, undef, undef, undef, undef, undef, undef], defers := [] } ∧ Sm N w a b w' ∧ At4 w' B6 lo ∧ At4 w' B7 hh ∧ B6 ≠ B7 ∧ N + 1 + 1 < B6 ∧ N + 1 + 1 < B7) { tmps := #[.agg #[.int .u64 (a 0), .int .u64 (a 1), .int .u64 (a 2), .int .u64 (a 3)], .agg #[.int .u64 (b 0), .int .u64 (b 1), .int .u64 (b 2), .int .u64 (b 3)], .pointer (some ⟨N, 0, none⟩), .pointer (some ⟨N + 1, 0, none⟩), .pointer (some ⟨N + 1 + 1, 0, none⟩), .bool false, undef, undef, undef, undef, undef, undef, undef, undef, undef, undef, undef, undef, undef, undef, undef, undef, undef, undef, undef, undef, undef, undef, undef, undef, undef, undef, undef, undef, undef, undef, undef, undef, undef, undef, undef, undef, undef, undef, undef], defers := [] } W := by
  have tail : ∀ (W' : World) (B6 B7 : Nat), Sm N w a b W' → At4 W' B6 Zr → At4 W' B7 Zr → B6 ≠ B7 → N + 1 + 1 < B6 → N + 1 + 1 < B7 →
      wpAnyH Try.prog .any #[{ dst := some 12, op := Go.Op.load 24 (Go.Operand.tmp 2), type := 24, pos := "wide.go:48", after := #[], guard := none }, { dst := some 13, op := Go.Op.call { callee := Go.Callee.value (Go.Operand.func 56), args := #[Go.Operand.tmp 12], argTypes := #[24] }, type := 24, pos := "wide.go:48", after := #[{ on := 0, ground := Go.Ground.data }], guard := none }, { dst := some 14, op := Go.Op.load 24 (Go.Operand.tmp 3), type := 24, pos := "wide.go:48", after := #[], guard := none }, { dst := some 15, op := Go.Op.call { callee := Go.Callee.value (Go.Operand.func 56), args := #[Go.Operand.tmp 14], argTypes := #[24] }, type := 24, pos := "wide.go:48", after := #[{ on := 2, ground := Go.Ground.data }, { on := 1, ground := Go.Ground.chain }], guard := none }, { dst := some 16, op := Go.Op.call { callee := Go.Callee.value (Go.Operand.func 55), args := #[Go.Operand.tmp 13, Go.Operand.tmp 15], argTypes := #[24, 24] }, type := 58, pos := "wide.go:48", after := #[{ on := 1, ground := Go.Ground.data }, { on := 3, ground := Go.Ground.data }, { on := 3, ground := Go.Ground.chain }], guard := none }, { dst := some 11, op := Go.Op.move (Go.Operand.tmp 16), type := 58, pos := "wide.go:48", after := #[{ on := 4, ground := Go.Ground.data }], guard := none }, { dst := some 17, op := Go.Op.extract (Go.Operand.tmp 11) 0, type := 24, pos := "wide.go:48", after := #[{ on := 5, ground := Go.Ground.data }], guard := none }, { dst := some 18, op := Go.Op.extract (Go.Operand.tmp 11) 1, type := 24, pos := "wide.go:48", after := #[{ on := 5, ground := Go.Ground.data }, { on := 10, ground := Go.Ground.gcOnly Go.Departure.lateStores }], guard := none }, { dst := some 6, op := Go.Op.alloc 24, type := 0, pos := "wide.go:48", after := #[], guard := none }, { dst := some 7, op := Go.Op.alloc 24, type := 0, pos := "wide.go:48", after := #[], guard := none }, { dst := none, op := Go.Op.store 24 (Go.Operand.tmp 6) (Go.Operand.tmp 17), type := 0, pos := "wide.go:48", after := #[{ on := 8, ground := Go.Ground.data }, { on := 6, ground := Go.Ground.data }, { on := 4, ground := Go.Ground.chain }, { on := 0, ground := Go.Ground.phase }, { on := 1, ground := Go.Ground.phase }, { on := 2, ground := Go.Ground.phase }, { on := 3, ground := Go.Ground.phase }, { on := 4, ground := Go.Ground.phase }, { on := 5, ground := Go.Ground.phase }, { on := 6, ground := Go.Ground.phase }, { on := 7, ground := Go.Ground.textOnly Go.Departure.lateStores }, { on := 8, ground := Go.Ground.phase }, { on := 9, ground := Go.Ground.phase }], guard := none }, { dst := none, op := Go.Op.store 24 (Go.Operand.tmp 7) (Go.Operand.tmp 18), type := 0, pos := "wide.go:48", after := #[{ on := 9, ground := Go.Ground.data }, { on := 7, ground := Go.Ground.data }, { on := 10, ground := Go.Ground.chain }, { on := 0, ground := Go.Ground.phase }, { on := 1, ground := Go.Ground.phase }, { on := 2, ground := Go.Ground.phase }, { on := 3, ground := Go.Ground.phase }, { on := 4, ground := Go.Ground.phase }, { on := 5, ground := Go.Ground.phase }, { on := 6, ground := Go.Ground.phase }, { on := 7, ground := Go.Ground.phase }, { on := 8, ground := Go.Ground.phase }, { on := 9, ground := Go.Ground.phase }, { on := 10, ground := Go.Ground.phase }], guard := none }] (NoPanic (fun e a' w' => e = Exit.normal ∧ ∃ B6 B7, a' = { tmps := #[.agg #[.int .u64 (a 0), .int .u64 (a 1), .int .u64 (a 2), .int .u64 (a 3)], .agg #[.int .u64 (b 0), .int .u64 (b 1), .int .u64 (b 2), .int .u64 (b 3)], .pointer (some ⟨N, 0, none⟩), .pointer (some ⟨N + 1, 0, none⟩), .pointer (some ⟨N + 1 + 1, 0, none⟩), .bool false, .pointer (some ⟨B6, 0, none⟩), .pointer (some ⟨B7, 0, none⟩), undef, undef, undef, .tuple #[.agg #[.int .u64 (lo 0), .int .u64 (lo 1), .int .u64 (lo 2), .int .u64 (lo 3)], .agg #[.int .u64 (hh 0), .int .u64 (hh 1), .int .u64 (hh 2), .int .u64 (hh 3)]], .agg #[.int .u64 (a 0), .int .u64 (a 1), .int .u64 (a 2), .int .u64 (a 3)], .agg #[.int .u64 (sizeR a 0), .int .u64 (sizeR a 1), .int .u64 (sizeR a 2), .int .u64 (sizeR a 3)], .agg #[.int .u64 (b 0), .int .u64 (b 1), .int .u64 (b 2), .int .u64 (b 3)], .agg #[.int .u64 (sizeR b 0), .int .u64 (sizeR b 1), .int .u64 (sizeR b 2), .int .u64 (sizeR b 3)], .tuple #[.agg #[.int .u64 (lo 0), .int .u64 (lo 1), .int .u64 (lo 2), .int .u64 (lo 3)], .agg #[.int .u64 (hh 0), .int .u64 (hh 1), .int .u64 (hh 2), .int .u64 (hh 3)]], .agg #[.int .u64 (lo 0), .int .u64 (lo 1), .int .u64 (lo 2), .int .u64 (lo 3)], .agg #[.int .u64 (hh 0), .int .u64 (hh 1), .int .u64 (hh 2), .int .u64 (hh 3)], undef, undef, undef, undef, undef, undef, undef, undef, undef, undef, undef, undef, undef, undef, undef, undef, undef, undef, undef, undef, undef, undef, undef, undef, undef, undef], defers := [] } ∧ Sm N w a b w' ∧ At4 w' B6 lo ∧ At4 w' B7 hh ∧ B6 ≠ B7 ∧ N + 1 + 1 < B6 ∧ N + 1 + 1 < B7)) (fun W' => Sm N w a b W') 2 #[true, true, true, true, true, true, true, true, true, true, false, false] { tmps := #[.agg #[.int .u64 (a 0), .int .u64 (a 1), .int .u64 (a 2), .int .u64 (a 3)], .agg #[.int .u64 (b 0), .int .u64 (b 1), .int .u64 (b 2), .int .u64 (b 3)], .pointer (some ⟨N, 0, none⟩), .pointer (some ⟨N + 1, 0, none⟩), .pointer (some ⟨N + 1 + 1, 0, none⟩), .bool false, .pointer (some ⟨B6, 0, none⟩), .pointer (some ⟨B7, 0, none⟩), undef, undef, undef, .tuple #[.agg #[.int .u64 (lo 0), .int .u64 (lo 1), .int .u64 (lo 2), .int .u64 (lo 3)], .agg #[.int .u64 (hh 0), .int .u64 (hh 1), .int .u64 (hh 2), .int .u64 (hh 3)]], .agg #[.int .u64 (a 0), .int .u64 (a 1), .int .u64 (a 2), .int .u64 (a 3)], .agg #[.int .u64 (sizeR a 0), .int .u64 (sizeR a 1), .int .u64 (sizeR a 2), .int .u64 (sizeR a 3)], .agg #[.int .u64 (b 0), .int .u64 (b 1), .int .u64 (b 2), .int .u64 (b 3)], .agg #[.int .u64 (sizeR b 0), .int .u64 (sizeR b 1), .int .u64 (sizeR b 2), .int .u64 (sizeR b 3)], .tuple #[.agg #[.int .u64 (lo 0), .int .u64 (lo 1), .int .u64 (lo 2), .int .u64 (lo 3)], .agg #[.int .u64 (hh 0), .int .u64 (hh 1), .int .u64 (hh 2), .int .u64 (hh 3)]], .agg #[.int .u64 (lo 0), .int .u64 (lo 1), .int .u64 (lo 2), .int .u64 (lo 3)], .agg #[.int .u64 (hh 0), .int .u64 (hh 1), .int .u64 (hh 2), .int .u64 (hh 3)], undef, undef, undef, undef, undef, undef, undef, undef, undef, undef, undef, undef, undef, undef, undef, undef, undef, undef, undef, undef, undef, undef, undef, undef, undef, undef], defers := [] } W' := by
    · intro W' B6 B7 hHeld h6 h7 hne g6 g7
      refine wpAnyH_ready (rs := [10]) (by kernel_rfl) (by simp) ?_
      refine AllReadyH.cons (o := { dst := none, op := Go.Op.store 24 (Go.Operand.tmp 6) (Go.Operand.tmp 17), type := 0, pos := "wide.go:48", after := #[{ on := 8, ground := Go.Ground.data }, { on := 6, ground := Go.Ground.data }, { on := 4, ground := Go.Ground.chain }, { on := 0, ground := Go.Ground.phase }, { on := 1, ground := Go.Ground.phase }, { on := 2, ground := Go.Ground.phase }, { on := 3, ground := Go.Ground.phase }, { on := 4, ground := Go.Ground.phase }, { on := 5, ground := Go.Ground.phase }, { on := 6, ground := Go.Ground.phase }, { on := 7, ground := Go.Ground.textOnly Go.Departure.lateStores }, { on := 8, ground := Go.Ground.phase }, { on := 9, ground := Go.Ground.phase }], guard := none }) rfl (fun K hK => ?_) AllReadyH.nil
      have hHeld0 := hHeld
      have k0 := h6.cell 0 (by omega)
      have k1 := h6.cell 1 (by omega)
      have k2 := h6.cell 2 (by omega)
      have k3 := h6.cell 3 (by omega)
      have f0 := h6.frozen 0
      have f1 := h6.frozen 1
      have f2 := h6.frozen 2
      have f3 := h6.frozen 3
      go_simp
      refine hK.out _ _ ?_ (fun hHeld2 => ?_)
      · exact sm_set hHeld0 B6 (by omega) _ _ _ _
      clear hK K hHeld
      have hHeld := hHeld2
      clear hHeld2
      try simp only [Act.put, List.setIfInBounds_toArray, List.set_cons_zero, List.set_cons_succ]
      clear k0 k1 k2 k3 f0 f1 f2 f3 hHeld0
      have h7a := h7.other4 (Ne.symm hne) (.int .u64 (lo 0)) (.int .u64 (lo 1)) (.int .u64 (lo 2)) (.int .u64 (lo 3))
      have h6a := h6.set4 lo
      refine wpAnyH_ready (rs := [11]) (by kernel_rfl) (by simp) ?_
      refine AllReadyH.cons (o := { dst := none, op := Go.Op.store 24 (Go.Operand.tmp 7) (Go.Operand.tmp 18), type := 0, pos := "wide.go:48", after := #[{ on := 9, ground := Go.Ground.data }, { on := 7, ground := Go.Ground.data }, { on := 10, ground := Go.Ground.chain }, { on := 0, ground := Go.Ground.phase }, { on := 1, ground := Go.Ground.phase }, { on := 2, ground := Go.Ground.phase }, { on := 3, ground := Go.Ground.phase }, { on := 4, ground := Go.Ground.phase }, { on := 5, ground := Go.Ground.phase }, { on := 6, ground := Go.Ground.phase }, { on := 7, ground := Go.Ground.phase }, { on := 8, ground := Go.Ground.phase }, { on := 9, ground := Go.Ground.phase }, { on := 10, ground := Go.Ground.phase }], guard := none }) rfl (fun K hK => ?_) AllReadyH.nil
      have hHeld0 := hHeld
      have k0 := h7a.cell 0 (by omega)
      have k1 := h7a.cell 1 (by omega)
      have k2 := h7a.cell 2 (by omega)
      have k3 := h7a.cell 3 (by omega)
      have f0 := h7a.frozen 0
      have f1 := h7a.frozen 1
      have f2 := h7a.frozen 2
      have f3 := h7a.frozen 3
      go_simp
      refine hK.out _ _ ?_ (fun hHeld2 => ?_)
      · exact sm_set hHeld0 B7 (by omega) _ _ _ _
      clear hK K hHeld
      have hHeld := hHeld2
      clear hHeld2
      try simp only [Act.put, List.setIfInBounds_toArray, List.set_cons_zero, List.set_cons_succ]
      clear k0 k1 k2 k3 f0 f1 f2 f3 hHeld0
      refine wpAnyH_done (by kernel_rfl) ?_ _
      refine NoPanic.normal ?_
      exact ⟨rfl, B6, B7, rfl, hHeld, h6a.other4 hne _ _ _ _, h7a.set4 hh, hne, g6, g7⟩
  refine wp_region_noPanic ?_
  refine wp_region_held_drew (S := fun W' => Sm N w a b W') (by kernel_rfl) (sm_drew hS) (fun hHeld => ?_)
  obtain ⟨W0, hW0⟩ : ∃ W0, W.drew = W0 := ⟨_, rfl⟩
  rw [hW0] at hHeld ⊢
  clear hW0
  refine wpAnyH_take (i := 0) (oi := { dst := some 12, op := Go.Op.load 24 (Go.Operand.tmp 2), type := 24, pos := "wide.go:48", after := #[], guard := none }) (v := ?_) rfl (by kernel_rfl) (by kernel_rfl) (by kernel_rfl) (fun _ _ _ h => h) (Or.inl ⟨by rfl, ?_⟩) (by assumption) ?_
  rotate_left
  · intro w hSw
    have k0 := hSw.1.cell 0 (by omega)
    have k1 := hSw.1.cell 1 (by omega)
    have k2 := hSw.1.cell 2 (by omega)
    have k3 := hSw.1.cell 3 (by omega)
    go_simp
    try with_reducible rfl
  try simp only [Act.put, List.setIfInBounds_toArray, List.set_cons_zero, List.set_cons_succ]
  refine wpAnyH_take (i := 2) (oi := { dst := some 14, op := Go.Op.load 24 (Go.Operand.tmp 3), type := 24, pos := "wide.go:48", after := #[], guard := none }) (v := ?_) rfl (by kernel_rfl) (by kernel_rfl) (by kernel_rfl) (fun _ _ _ h => h) (Or.inl ⟨by rfl, ?_⟩) (by assumption) ?_
  rotate_left
  · intro w hSw
    have k0 := hSw.2.1.cell 0 (by omega)
    have k1 := hSw.2.1.cell 1 (by omega)
    have k2 := hSw.2.1.cell 2 (by omega)
    have k3 := hSw.2.1.cell 3 (by omega)
    go_simp
    try with_reducible rfl
  try simp only [Act.put, List.setIfInBounds_toArray, List.set_cons_zero, List.set_cons_succ]
  refine wpAnyH_ready (rs := [1, 8, 9]) (by kernel_rfl) (by simp) ?_
  refine AllReadyH.cons (o := { dst := some 13, op := Go.Op.call { callee := Go.Callee.value (Go.Operand.func 56), args := #[Go.Operand.tmp 12], argTypes := #[24] }, type := 24, pos := "wide.go:48", after := #[{ on := 0, ground := Go.Ground.data }], guard := none }) rfl (fun K hK => ?_) (AllReadyH.cons (o := { dst := some 6, op := Go.Op.alloc 24, type := 0, pos := "wide.go:48", after := #[], guard := none }) rfl (fun K hK => ?_) (AllReadyH.cons (o := { dst := some 7, op := Go.Op.alloc 24, type := 0, pos := "wide.go:48", after := #[], guard := none }) rfl (fun K hK => ?_) AllReadyH.nil))
  · go_simp
    refine (size_x a ha _).mono ?_
    rintro e W1 ⟨rfl, hBl⟩
    refine hK.out _ _ (sm_below hHeld hBl) (fun hHeld2 => ?_)
    clear hK K hHeld
    have hHeld := hHeld2
    clear hHeld2
    clear hBl
    try simp only [Act.put, List.setIfInBounds_toArray, List.set_cons_zero, List.set_cons_succ]
    refine wpAnyH_ready (rs := [3, 8, 9]) (by kernel_rfl) (by simp) ?_
    refine AllReadyH.cons (o := { dst := some 15, op := Go.Op.call { callee := Go.Callee.value (Go.Operand.func 56), args := #[Go.Operand.tmp 14], argTypes := #[24] }, type := 24, pos := "wide.go:48", after := #[{ on := 2, ground := Go.Ground.data }, { on := 1, ground := Go.Ground.chain }], guard := none }) rfl (fun K hK => ?_) (AllReadyH.cons (o := { dst := some 6, op := Go.Op.alloc 24, type := 0, pos := "wide.go:48", after := #[], guard := none }) rfl (fun K hK => ?_) (AllReadyH.cons (o := { dst := some 7, op := Go.Op.alloc 24, type := 0, pos := "wide.go:48", after := #[], guard := none }) rfl (fun K hK => ?_) AllReadyH.nil))
    · go_simp
      refine (size_x b hb _).mono ?_
      rintro e W2 ⟨rfl, hBl⟩
      refine hK.out _ _ (sm_below hHeld hBl) (fun hHeld2 => ?_)
      clear hK K hHeld
      have hHeld := hHeld2
      clear hHeld2
      clear hBl
      try simp only [Act.put, List.setIfInBounds_toArray, List.set_cons_zero, List.set_cons_succ]
      refine wpAnyH_ready (rs := [4, 8, 9]) (by kernel_rfl) (by simp) ?_
      refine AllReadyH.cons (o := { dst := some 16, op := Go.Op.call { callee := Go.Callee.value (Go.Operand.func 55), args := #[Go.Operand.tmp 13, Go.Operand.tmp 15], argTypes := #[24, 24] }, type := 58, pos := "wide.go:48", after := #[{ on := 1, ground := Go.Ground.data }, { on := 3, ground := Go.Ground.data }, { on := 3, ground := Go.Ground.chain }], guard := none }) rfl (fun K hK => ?_) (AllReadyH.cons (o := { dst := some 6, op := Go.Op.alloc 24, type := 0, pos := "wide.go:48", after := #[], guard := none }) rfl (fun K hK => ?_) (AllReadyH.cons (o := { dst := some 7, op := Go.Op.alloc 24, type := 0, pos := "wide.go:48", after := #[], guard := none }) rfl (fun K hK => ?_) AllReadyH.nil))
      · go_simp
        refine (hprod _).mono ?_
        rintro e W3 ⟨rfl, hBl⟩
        refine hK.out _ _ (sm_below hHeld hBl) (fun hHeld2 => ?_)
        clear hK K hHeld
        have hHeld := hHeld2
        clear hHeld2
        clear hBl
        try simp only [Act.put, List.setIfInBounds_toArray, List.set_cons_zero, List.set_cons_succ]
        refine wpAnyH_take (i := 5) (oi := { dst := some 11, op := Go.Op.move (Go.Operand.tmp 16), type := 58, pos := "wide.go:48", after := #[{ on := 4, ground := Go.Ground.data }], guard := none }) (v := ?_) rfl (by kernel_rfl) (by kernel_rfl) (by kernel_rfl) (fun _ _ _ h => h) (Or.inl ⟨by rfl, ?_⟩) (by assumption) ?_
        rotate_left
        · intro w hSw
          go_simp
          try with_reducible rfl
        try simp only [Act.put, List.setIfInBounds_toArray, List.set_cons_zero, List.set_cons_succ]
        refine wpAnyH_take (i := 6) (oi := { dst := some 17, op := Go.Op.extract (Go.Operand.tmp 11) 0, type := 24, pos := "wide.go:48", after := #[{ on := 5, ground := Go.Ground.data }], guard := none }) (v := ?_) rfl (by kernel_rfl) (by kernel_rfl) (by kernel_rfl) (fun _ _ _ h => h) (Or.inl ⟨by rfl, ?_⟩) (by assumption) ?_
        rotate_left
        · intro w hSw
          go_simp
          try with_reducible rfl
        try simp only [Act.put, List.setIfInBounds_toArray, List.set_cons_zero, List.set_cons_succ]
        refine wpAnyH_take (i := 7) (oi := { dst := some 18, op := Go.Op.extract (Go.Operand.tmp 11) 1, type := 24, pos := "wide.go:48", after := #[{ on := 5, ground := Go.Ground.data }, { on := 10, ground := Go.Ground.gcOnly Go.Departure.lateStores }], guard := none }) (v := ?_) rfl (by kernel_rfl) (by kernel_rfl) (by kernel_rfl) (fun _ _ _ h => h) (Or.inl ⟨by rfl, ?_⟩) (by assumption) ?_
        rotate_left
        · intro w hSw
          go_simp
          try with_reducible rfl
        try simp only [Act.put, List.setIfInBounds_toArray, List.set_cons_zero, List.set_cons_succ]
        refine wpAnyH_ready (rs := [8, 9]) (by kernel_rfl) (by simp) ?_
        refine AllReadyH.cons (o := { dst := some 6, op := Go.Op.alloc 24, type := 0, pos := "wide.go:48", after := #[], guard := none }) rfl (fun K hK => ?_) (AllReadyH.cons (o := { dst := some 7, op := Go.Op.alloc 24, type := 0, pos := "wide.go:48", after := #[], guard := none }) rfl (fun K hK => ?_) AllReadyH.nil)
        · go_simp
          refine hK.out _ _ (sm_alloc hHeld _) (fun hHeld2 => ?_)
          have g6 := hHeld.2.2.1.lt
          obtain ⟨W4, B6, hWn, hBn, h6⟩ : ∃ Wn B, W3.alloc (.cells #[.int .u64 0, .int .u64 0, .int .u64 0, .int .u64 0] 24) = Wn ∧ W3.heap.size = B ∧ At4 Wn B Zr := ⟨_, _, rfl, rfl, At4.new W3 Zr⟩
          rw [hBn] at g6
          rw [hWn] at hHeld2 ⊢
          rw [hBn]
          clear hK K hHeld hWn hBn
          have hHeld := hHeld2
          clear hHeld2
          try simp only [Act.put, List.setIfInBounds_toArray, List.set_cons_zero, List.set_cons_succ]
          refine wpAnyH_ready (rs := [9]) (by kernel_rfl) (by simp) ?_
          refine AllReadyH.cons (o := { dst := some 7, op := Go.Op.alloc 24, type := 0, pos := "wide.go:48", after := #[], guard := none }) rfl (fun K hK => ?_) AllReadyH.nil
          · go_simp
            refine hK.out _ _ (sm_alloc hHeld _) (fun hHeld2 => ?_)
            have g7 := hHeld.2.2.1.lt
            obtain ⟨W5, B7, hWn, hBn, h7⟩ : ∃ Wn B, W4.alloc (.cells #[.int .u64 0, .int .u64 0, .int .u64 0, .int .u64 0] 24) = Wn ∧ W4.heap.size = B ∧ At4 Wn B Zr := ⟨_, _, rfl, rfl, At4.new W4 Zr⟩
            have hne : B6 ≠ B7 := by have := h6.lt; omega
            have h6 : At4 W5 B6 Zr := hWn ▸ h6.alloc _
            rw [hBn] at g7
            rw [hWn] at hHeld2 ⊢
            rw [hBn]
            clear hK K hHeld hWn hBn
            have hHeld := hHeld2
            clear hHeld2
            try simp only [Act.put, List.setIfInBounds_toArray, List.set_cons_zero, List.set_cons_succ]
            exact tail _ _ _ hHeld h6 h7 hne g6 g7
        · go_simp
          refine hK.out _ _ (sm_alloc hHeld _) (fun hHeld2 => ?_)
          have g7 := hHeld.2.2.1.lt
          obtain ⟨W6, B7, hWn, hBn, h7⟩ : ∃ Wn B, W3.alloc (.cells #[.int .u64 0, .int .u64 0, .int .u64 0, .int .u64 0] 24) = Wn ∧ W3.heap.size = B ∧ At4 Wn B Zr := ⟨_, _, rfl, rfl, At4.new W3 Zr⟩
          rw [hBn] at g7
          rw [hWn] at hHeld2 ⊢
          rw [hBn]
          clear hK K hHeld hWn hBn
          have hHeld := hHeld2
          clear hHeld2
          try simp only [Act.put, List.setIfInBounds_toArray, List.set_cons_zero, List.set_cons_succ]
          refine wpAnyH_ready (rs := [8]) (by kernel_rfl) (by simp) ?_
          refine AllReadyH.cons (o := { dst := some 6, op := Go.Op.alloc 24, type := 0, pos := "wide.go:48", after := #[], guard := none }) rfl (fun K hK => ?_) AllReadyH.nil
          · go_simp
            refine hK.out _ _ (sm_alloc hHeld _) (fun hHeld2 => ?_)
            have g6 := hHeld.2.2.1.lt
            obtain ⟨W7, B6, hWn, hBn, h6⟩ : ∃ Wn B, W6.alloc (.cells #[.int .u64 0, .int .u64 0, .int .u64 0, .int .u64 0] 24) = Wn ∧ W6.heap.size = B ∧ At4 Wn B Zr := ⟨_, _, rfl, rfl, At4.new W6 Zr⟩
            have hne : B6 ≠ B7 := by have := h7.lt; omega
            have h7 : At4 W7 B7 Zr := hWn ▸ h7.alloc _
            rw [hBn] at g6
            rw [hWn] at hHeld2 ⊢
            rw [hBn]
            clear hK K hHeld hWn hBn
            have hHeld := hHeld2
            clear hHeld2
            try simp only [Act.put, List.setIfInBounds_toArray, List.set_cons_zero, List.set_cons_succ]
            exact tail _ _ _ hHeld h6 h7 hne g6 g7
      · go_simp
        refine hK.out _ _ (sm_alloc hHeld _) (fun hHeld2 => ?_)
        have g6 := hHeld.2.2.1.lt
        obtain ⟨W8, B6, hWn, hBn, h6⟩ : ∃ Wn B, W2.alloc (.cells #[.int .u64 0, .int .u64 0, .int .u64 0, .int .u64 0] 24) = Wn ∧ W2.heap.size = B ∧ At4 Wn B Zr := ⟨_, _, rfl, rfl, At4.new W2 Zr⟩
        rw [hBn] at g6
        rw [hWn] at hHeld2 ⊢
        rw [hBn]
        clear hK K hHeld hWn hBn
        have hHeld := hHeld2
        clear hHeld2
        try simp only [Act.put, List.setIfInBounds_toArray, List.set_cons_zero, List.set_cons_succ]
        refine wpAnyH_ready (rs := [4, 9]) (by kernel_rfl) (by simp) ?_
        refine AllReadyH.cons (o := { dst := some 16, op := Go.Op.call { callee := Go.Callee.value (Go.Operand.func 55), args := #[Go.Operand.tmp 13, Go.Operand.tmp 15], argTypes := #[24, 24] }, type := 58, pos := "wide.go:48", after := #[{ on := 1, ground := Go.Ground.data }, { on := 3, ground := Go.Ground.data }, { on := 3, ground := Go.Ground.chain }], guard := none }) rfl (fun K hK => ?_) (AllReadyH.cons (o := { dst := some 7, op := Go.Op.alloc 24, type := 0, pos := "wide.go:48", after := #[], guard := none }) rfl (fun K hK => ?_) AllReadyH.nil)
        · go_simp
          refine (hprod _).mono ?_
          rintro e W9 ⟨rfl, hBl⟩
          refine hK.out _ _ (sm_below hHeld hBl) (fun hHeld2 => ?_)
          clear hK K hHeld
          have hHeld := hHeld2
          clear hHeld2
          have h6 := h6.below hBl
          clear hBl
          try simp only [Act.put, List.setIfInBounds_toArray, List.set_cons_zero, List.set_cons_succ]
          refine wpAnyH_take (i := 5) (oi := { dst := some 11, op := Go.Op.move (Go.Operand.tmp 16), type := 58, pos := "wide.go:48", after := #[{ on := 4, ground := Go.Ground.data }], guard := none }) (v := ?_) rfl (by kernel_rfl) (by kernel_rfl) (by kernel_rfl) (fun _ _ _ h => h) (Or.inl ⟨by rfl, ?_⟩) (by assumption) ?_
          rotate_left
          · intro w hSw
            go_simp
            try with_reducible rfl
          try simp only [Act.put, List.setIfInBounds_toArray, List.set_cons_zero, List.set_cons_succ]
          refine wpAnyH_take (i := 6) (oi := { dst := some 17, op := Go.Op.extract (Go.Operand.tmp 11) 0, type := 24, pos := "wide.go:48", after := #[{ on := 5, ground := Go.Ground.data }], guard := none }) (v := ?_) rfl (by kernel_rfl) (by kernel_rfl) (by kernel_rfl) (fun _ _ _ h => h) (Or.inl ⟨by rfl, ?_⟩) (by assumption) ?_
          rotate_left
          · intro w hSw
            go_simp
            try with_reducible rfl
          try simp only [Act.put, List.setIfInBounds_toArray, List.set_cons_zero, List.set_cons_succ]
          refine wpAnyH_take (i := 7) (oi := { dst := some 18, op := Go.Op.extract (Go.Operand.tmp 11) 1, type := 24, pos := "wide.go:48", after := #[{ on := 5, ground := Go.Ground.data }, { on := 10, ground := Go.Ground.gcOnly Go.Departure.lateStores }], guard := none }) (v := ?_) rfl (by kernel_rfl) (by kernel_rfl) (by kernel_rfl) (fun _ _ _ h => h) (Or.inl ⟨by rfl, ?_⟩) (by assumption) ?_
          rotate_left
          · intro w hSw
            go_simp
            try with_reducible rfl
          try simp only [Act.put, List.setIfInBounds_toArray, List.set_cons_zero, List.set_cons_succ]
          refine wpAnyH_ready (rs := [9]) (by kernel_rfl) (by simp) ?_
          refine AllReadyH.cons (o := { dst := some 7, op := Go.Op.alloc 24, type := 0, pos := "wide.go:48", after := #[], guard := none }) rfl (fun K hK => ?_) AllReadyH.nil
          · go_simp
            refine hK.out _ _ (sm_alloc hHeld _) (fun hHeld2 => ?_)
            have g7 := hHeld.2.2.1.lt
            obtain ⟨W10, B7, hWn, hBn, h7⟩ : ∃ Wn B, W9.alloc (.cells #[.int .u64 0, .int .u64 0, .int .u64 0, .int .u64 0] 24) = Wn ∧ W9.heap.size = B ∧ At4 Wn B Zr := ⟨_, _, rfl, rfl, At4.new W9 Zr⟩
            have hne : B6 ≠ B7 := by have := h6.lt; omega
            have h6 : At4 W10 B6 Zr := hWn ▸ h6.alloc _
            rw [hBn] at g7
            rw [hWn] at hHeld2 ⊢
            rw [hBn]
            clear hK K hHeld hWn hBn
            have hHeld := hHeld2
            clear hHeld2
            try simp only [Act.put, List.setIfInBounds_toArray, List.set_cons_zero, List.set_cons_succ]
            exact tail _ _ _ hHeld h6 h7 hne g6 g7
        · go_simp
          refine hK.out _ _ (sm_alloc hHeld _) (fun hHeld2 => ?_)
          have g7 := hHeld.2.2.1.lt
          obtain ⟨W11, B7, hWn, hBn, h7⟩ : ∃ Wn B, W8.alloc (.cells #[.int .u64 0, .int .u64 0, .int .u64 0, .int .u64 0] 24) = Wn ∧ W8.heap.size = B ∧ At4 Wn B Zr := ⟨_, _, rfl, rfl, At4.new W8 Zr⟩
          have hne : B6 ≠ B7 := by have := h6.lt; omega
          have h6 : At4 W11 B6 Zr := hWn ▸ h6.alloc _
          rw [hBn] at g7
          rw [hWn] at hHeld2 ⊢
          rw [hBn]
          clear hK K hHeld hWn hBn
          have hHeld := hHeld2
          clear hHeld2
          try simp only [Act.put, List.setIfInBounds_toArray, List.set_cons_zero, List.set_cons_succ]
          refine wpAnyH_ready (rs := [4]) (by kernel_rfl) (by simp) ?_
          refine AllReadyH.cons (o := { dst := some 16, op := Go.Op.call { callee := Go.Callee.value (Go.Operand.func 55), args := #[Go.Operand.tmp 13, Go.Operand.tmp 15], argTypes := #[24, 24] }, type := 58, pos := "wide.go:48", after := #[{ on := 1, ground := Go.Ground.data }, { on := 3, ground := Go.Ground.data }, { on := 3, ground := Go.Ground.chain }], guard := none }) rfl (fun K hK => ?_) AllReadyH.nil
          · go_simp
            refine (hprod _).mono ?_
            rintro e W12 ⟨rfl, hBl⟩
            refine hK.out _ _ (sm_below hHeld hBl) (fun hHeld2 => ?_)
            clear hK K hHeld
            have hHeld := hHeld2
            clear hHeld2
            have h6 := h6.below hBl
            have h7 := h7.below hBl
            clear hBl
            try simp only [Act.put, List.setIfInBounds_toArray, List.set_cons_zero, List.set_cons_succ]
            refine wpAnyH_take (i := 5) (oi := { dst := some 11, op := Go.Op.move (Go.Operand.tmp 16), type := 58, pos := "wide.go:48", after := #[{ on := 4, ground := Go.Ground.data }], guard := none }) (v := ?_) rfl (by kernel_rfl) (by kernel_rfl) (by kernel_rfl) (fun _ _ _ h => h) (Or.inl ⟨by rfl, ?_⟩) (by assumption) ?_
            rotate_left
            · intro w hSw
              go_simp
              try with_reducible rfl
            try simp only [Act.put, List.setIfInBounds_toArray, List.set_cons_zero, List.set_cons_succ]
            refine wpAnyH_take (i := 6) (oi := { dst := some 17, op := Go.Op.extract (Go.Operand.tmp 11) 0, type := 24, pos := "wide.go:48", after := #[{ on := 5, ground := Go.Ground.data }], guard := none }) (v := ?_) rfl (by kernel_rfl) (by kernel_rfl) (by kernel_rfl) (fun _ _ _ h => h) (Or.inl ⟨by rfl, ?_⟩) (by assumption) ?_
            rotate_left
            · intro w hSw
              go_simp
              try with_reducible rfl
            try simp only [Act.put, List.setIfInBounds_toArray, List.set_cons_zero, List.set_cons_succ]
            refine wpAnyH_take (i := 7) (oi := { dst := some 18, op := Go.Op.extract (Go.Operand.tmp 11) 1, type := 24, pos := "wide.go:48", after := #[{ on := 5, ground := Go.Ground.data }, { on := 10, ground := Go.Ground.gcOnly Go.Departure.lateStores }], guard := none }) (v := ?_) rfl (by kernel_rfl) (by kernel_rfl) (by kernel_rfl) (fun _ _ _ h => h) (Or.inl ⟨by rfl, ?_⟩) (by assumption) ?_
            rotate_left
            · intro w hSw
              go_simp
              try with_reducible rfl
            try simp only [Act.put, List.setIfInBounds_toArray, List.set_cons_zero, List.set_cons_succ]
            exact tail _ _ _ hHeld h6 h7 hne g6 g7
      · go_simp
        refine hK.out _ _ (sm_alloc hHeld _) (fun hHeld2 => ?_)
        have g7 := hHeld.2.2.1.lt
        obtain ⟨W13, B7, hWn, hBn, h7⟩ : ∃ Wn B, W2.alloc (.cells #[.int .u64 0, .int .u64 0, .int .u64 0, .int .u64 0] 24) = Wn ∧ W2.heap.size = B ∧ At4 Wn B Zr := ⟨_, _, rfl, rfl, At4.new W2 Zr⟩
        rw [hBn] at g7
        rw [hWn] at hHeld2 ⊢
        rw [hBn]
        clear hK K hHeld hWn hBn
        have hHeld := hHeld2
        clear hHeld2
        try simp only [Act.put, List.setIfInBounds_toArray, List.set_cons_zero, List.set_cons_succ]
        refine wpAnyH_ready (rs := [4, 8]) (by kernel_rfl) (by simp) ?_
        refine AllReadyH.cons (o := { dst := some 16, op := Go.Op.call { callee := Go.Callee.value (Go.Operand.func 55), args := #[Go.Operand.tmp 13, Go.Operand.tmp 15], argTypes := #[24, 24] }, type := 58, pos := "wide.go:48", after := #[{ on := 1, ground := Go.Ground.data }, { on := 3, ground := Go.Ground.data }, { on := 3, ground := Go.Ground.chain }], guard := none }) rfl (fun K hK => ?_) (AllReadyH.cons (o := { dst := some 6, op := Go.Op.alloc 24, type := 0, pos := "wide.go:48", after := #[], guard := none }) rfl (fun K hK => ?_) AllReadyH.nil)
        · go_simp
          refine (hprod _).mono ?_
          rintro e W14 ⟨rfl, hBl⟩
          refine hK.out _ _ (sm_below hHeld hBl) (fun hHeld2 => ?_)
          clear hK K hHeld
          have hHeld := hHeld2
          clear hHeld2
          have h7 := h7.below hBl
          clear hBl
          try simp only [Act.put, List.setIfInBounds_toArray, List.set_cons_zero, List.set_cons_succ]
          refine wpAnyH_take (i := 5) (oi := { dst := some 11, op := Go.Op.move (Go.Operand.tmp 16), type := 58, pos := "wide.go:48", after := #[{ on := 4, ground := Go.Ground.data }], guard := none }) (v := ?_) rfl (by kernel_rfl) (by kernel_rfl) (by kernel_rfl) (fun _ _ _ h => h) (Or.inl ⟨by rfl, ?_⟩) (by assumption) ?_
          rotate_left
          · intro w hSw
            go_simp
            try with_reducible rfl
          try simp only [Act.put, List.setIfInBounds_toArray, List.set_cons_zero, List.set_cons_succ]
          refine wpAnyH_take (i := 6) (oi := { dst := some 17, op := Go.Op.extract (Go.Operand.tmp 11) 0, type := 24, pos := "wide.go:48", after := #[{ on := 5, ground := Go.Ground.data }], guard := none }) (v := ?_) rfl (by kernel_rfl) (by kernel_rfl) (by kernel_rfl) (fun _ _ _ h => h) (Or.inl ⟨by rfl, ?_⟩) (by assumption) ?_
          rotate_left
          · intro w hSw
            go_simp
            try with_reducible rfl
          try simp only [Act.put, List.setIfInBounds_toArray, List.set_cons_zero, List.set_cons_succ]
          refine wpAnyH_take (i := 7) (oi := { dst := some 18, op := Go.Op.extract (Go.Operand.tmp 11) 1, type := 24, pos := "wide.go:48", after := #[{ on := 5, ground := Go.Ground.data }, { on := 10, ground := Go.Ground.gcOnly Go.Departure.lateStores }], guard := none }) (v := ?_) rfl (by kernel_rfl) (by kernel_rfl) (by kernel_rfl) (fun _ _ _ h => h) (Or.inl ⟨by rfl, ?_⟩) (by assumption) ?_
          rotate_left
          · intro w hSw
            go_simp
            try with_reducible rfl
          try simp only [Act.put, List.setIfInBounds_toArray, List.set_cons_zero, List.set_cons_succ]
          refine wpAnyH_ready (rs := [8]) (by kernel_rfl) (by simp) ?_
          refine AllReadyH.cons (o := { dst := some 6, op := Go.Op.alloc 24, type := 0, pos := "wide.go:48", after := #[], guard := none }) rfl (fun K hK => ?_) AllReadyH.nil
          · go_simp
            refine hK.out _ _ (sm_alloc hHeld _) (fun hHeld2 => ?_)
            have g6 := hHeld.2.2.1.lt
            obtain ⟨W15, B6, hWn, hBn, h6⟩ : ∃ Wn B, W14.alloc (.cells #[.int .u64 0, .int .u64 0, .int .u64 0, .int .u64 0] 24) = Wn ∧ W14.heap.size = B ∧ At4 Wn B Zr := ⟨_, _, rfl, rfl, At4.new W14 Zr⟩
            have hne : B6 ≠ B7 := by have := h7.lt; omega
            have h7 : At4 W15 B7 Zr := hWn ▸ h7.alloc _
            rw [hBn] at g6
            rw [hWn] at hHeld2 ⊢
            rw [hBn]
            clear hK K hHeld hWn hBn
            have hHeld := hHeld2
            clear hHeld2
            try simp only [Act.put, List.setIfInBounds_toArray, List.set_cons_zero, List.set_cons_succ]
            exact tail _ _ _ hHeld h6 h7 hne g6 g7
        · go_simp
          refine hK.out _ _ (sm_alloc hHeld _) (fun hHeld2 => ?_)
          have g6 := hHeld.2.2.1.lt
          obtain ⟨W16, B6, hWn, hBn, h6⟩ : ∃ Wn B, W13.alloc (.cells #[.int .u64 0, .int .u64 0, .int .u64 0, .int .u64 0] 24) = Wn ∧ W13.heap.size = B ∧ At4 Wn B Zr := ⟨_, _, rfl, rfl, At4.new W13 Zr⟩
          have hne : B6 ≠ B7 := by have := h7.lt; omega
          have h7 : At4 W16 B7 Zr := hWn ▸ h7.alloc _
          rw [hBn] at g6
          rw [hWn] at hHeld2 ⊢
          rw [hBn]
          clear hK K hHeld hWn hBn
          have hHeld := hHeld2
          clear hHeld2
          try simp only [Act.put, List.setIfInBounds_toArray, List.set_cons_zero, List.set_cons_succ]
          refine wpAnyH_ready (rs := [4]) (by kernel_rfl) (by simp) ?_
          refine AllReadyH.cons (o := { dst := some 16, op := Go.Op.call { callee := Go.Callee.value (Go.Operand.func 55), args := #[Go.Operand.tmp 13, Go.Operand.tmp 15], argTypes := #[24, 24] }, type := 58, pos := "wide.go:48", after := #[{ on := 1, ground := Go.Ground.data }, { on := 3, ground := Go.Ground.data }, { on := 3, ground := Go.Ground.chain }], guard := none }) rfl (fun K hK => ?_) AllReadyH.nil
          · go_simp
            refine (hprod _).mono ?_
            rintro e W17 ⟨rfl, hBl⟩
            refine hK.out _ _ (sm_below hHeld hBl) (fun hHeld2 => ?_)
            clear hK K hHeld
            have hHeld := hHeld2
            clear hHeld2
            have h6 := h6.below hBl
            have h7 := h7.below hBl
            clear hBl
            try simp only [Act.put, List.setIfInBounds_toArray, List.set_cons_zero, List.set_cons_succ]
            refine wpAnyH_take (i := 5) (oi := { dst := some 11, op := Go.Op.move (Go.Operand.tmp 16), type := 58, pos := "wide.go:48", after := #[{ on := 4, ground := Go.Ground.data }], guard := none }) (v := ?_) rfl (by kernel_rfl) (by kernel_rfl) (by kernel_rfl) (fun _ _ _ h => h) (Or.inl ⟨by rfl, ?_⟩) (by assumption) ?_
            rotate_left
            · intro w hSw
              go_simp
              try with_reducible rfl
            try simp only [Act.put, List.setIfInBounds_toArray, List.set_cons_zero, List.set_cons_succ]
            refine wpAnyH_take (i := 6) (oi := { dst := some 17, op := Go.Op.extract (Go.Operand.tmp 11) 0, type := 24, pos := "wide.go:48", after := #[{ on := 5, ground := Go.Ground.data }], guard := none }) (v := ?_) rfl (by kernel_rfl) (by kernel_rfl) (by kernel_rfl) (fun _ _ _ h => h) (Or.inl ⟨by rfl, ?_⟩) (by assumption) ?_
            rotate_left
            · intro w hSw
              go_simp
              try with_reducible rfl
            try simp only [Act.put, List.setIfInBounds_toArray, List.set_cons_zero, List.set_cons_succ]
            refine wpAnyH_take (i := 7) (oi := { dst := some 18, op := Go.Op.extract (Go.Operand.tmp 11) 1, type := 24, pos := "wide.go:48", after := #[{ on := 5, ground := Go.Ground.data }, { on := 10, ground := Go.Ground.gcOnly Go.Departure.lateStores }], guard := none }) (v := ?_) rfl (by kernel_rfl) (by kernel_rfl) (by kernel_rfl) (fun _ _ _ h => h) (Or.inl ⟨by rfl, ?_⟩) (by assumption) ?_
            rotate_left
            · intro w hSw
              go_simp
              try with_reducible rfl
            try simp only [Act.put, List.setIfInBounds_toArray, List.set_cons_zero, List.set_cons_succ]
            exact tail _ _ _ hHeld h6 h7 hne g6 g7
    · go_simp
      refine hK.out _ _ (sm_alloc hHeld _) (fun hHeld2 => ?_)
      have g6 := hHeld.2.2.1.lt
      obtain ⟨W18, B6, hWn, hBn, h6⟩ : ∃ Wn B, W1.alloc (.cells #[.int .u64 0, .int .u64 0, .int .u64 0, .int .u64 0] 24) = Wn ∧ W1.heap.size = B ∧ At4 Wn B Zr := ⟨_, _, rfl, rfl, At4.new W1 Zr⟩
      rw [hBn] at g6
      rw [hWn] at hHeld2 ⊢
      rw [hBn]
      clear hK K hHeld hWn hBn
      have hHeld := hHeld2
      clear hHeld2
      try simp only [Act.put, List.setIfInBounds_toArray, List.set_cons_zero, List.set_cons_succ]
      refine wpAnyH_ready (rs := [3, 9]) (by kernel_rfl) (by simp) ?_
      refine AllReadyH.cons (o := { dst := some 15, op := Go.Op.call { callee := Go.Callee.value (Go.Operand.func 56), args := #[Go.Operand.tmp 14], argTypes := #[24] }, type := 24, pos := "wide.go:48", after := #[{ on := 2, ground := Go.Ground.data }, { on := 1, ground := Go.Ground.chain }], guard := none }) rfl (fun K hK => ?_) (AllReadyH.cons (o := { dst := some 7, op := Go.Op.alloc 24, type := 0, pos := "wide.go:48", after := #[], guard := none }) rfl (fun K hK => ?_) AllReadyH.nil)
      · go_simp
        refine (size_x b hb _).mono ?_
        rintro e W19 ⟨rfl, hBl⟩
        refine hK.out _ _ (sm_below hHeld hBl) (fun hHeld2 => ?_)
        clear hK K hHeld
        have hHeld := hHeld2
        clear hHeld2
        have h6 := h6.below hBl
        clear hBl
        try simp only [Act.put, List.setIfInBounds_toArray, List.set_cons_zero, List.set_cons_succ]
        refine wpAnyH_ready (rs := [4, 9]) (by kernel_rfl) (by simp) ?_
        refine AllReadyH.cons (o := { dst := some 16, op := Go.Op.call { callee := Go.Callee.value (Go.Operand.func 55), args := #[Go.Operand.tmp 13, Go.Operand.tmp 15], argTypes := #[24, 24] }, type := 58, pos := "wide.go:48", after := #[{ on := 1, ground := Go.Ground.data }, { on := 3, ground := Go.Ground.data }, { on := 3, ground := Go.Ground.chain }], guard := none }) rfl (fun K hK => ?_) (AllReadyH.cons (o := { dst := some 7, op := Go.Op.alloc 24, type := 0, pos := "wide.go:48", after := #[], guard := none }) rfl (fun K hK => ?_) AllReadyH.nil)
        · go_simp
          refine (hprod _).mono ?_
          rintro e W20 ⟨rfl, hBl⟩
          refine hK.out _ _ (sm_below hHeld hBl) (fun hHeld2 => ?_)
          clear hK K hHeld
          have hHeld := hHeld2
          clear hHeld2
          have h6 := h6.below hBl
          clear hBl
          try simp only [Act.put, List.setIfInBounds_toArray, List.set_cons_zero, List.set_cons_succ]
          refine wpAnyH_take (i := 5) (oi := { dst := some 11, op := Go.Op.move (Go.Operand.tmp 16), type := 58, pos := "wide.go:48", after := #[{ on := 4, ground := Go.Ground.data }], guard := none }) (v := ?_) rfl (by kernel_rfl) (by kernel_rfl) (by kernel_rfl) (fun _ _ _ h => h) (Or.inl ⟨by rfl, ?_⟩) (by assumption) ?_
          rotate_left
          · intro w hSw
            go_simp
            try with_reducible rfl
          try simp only [Act.put, List.setIfInBounds_toArray, List.set_cons_zero, List.set_cons_succ]
          refine wpAnyH_take (i := 6) (oi := { dst := some 17, op := Go.Op.extract (Go.Operand.tmp 11) 0, type := 24, pos := "wide.go:48", after := #[{ on := 5, ground := Go.Ground.data }], guard := none }) (v := ?_) rfl (by kernel_rfl) (by kernel_rfl) (by kernel_rfl) (fun _ _ _ h => h) (Or.inl ⟨by rfl, ?_⟩) (by assumption) ?_
          rotate_left
          · intro w hSw
            go_simp
            try with_reducible rfl
          try simp only [Act.put, List.setIfInBounds_toArray, List.set_cons_zero, List.set_cons_succ]
          refine wpAnyH_take (i := 7) (oi := { dst := some 18, op := Go.Op.extract (Go.Operand.tmp 11) 1, type := 24, pos := "wide.go:48", after := #[{ on := 5, ground := Go.Ground.data }, { on := 10, ground := Go.Ground.gcOnly Go.Departure.lateStores }], guard := none }) (v := ?_) rfl (by kernel_rfl) (by kernel_rfl) (by kernel_rfl) (fun _ _ _ h => h) (Or.inl ⟨by rfl, ?_⟩) (by assumption) ?_
          rotate_left
          · intro w hSw
            go_simp
            try with_reducible rfl
          try simp only [Act.put, List.setIfInBounds_toArray, List.set_cons_zero, List.set_cons_succ]
          refine wpAnyH_ready (rs := [9]) (by kernel_rfl) (by simp) ?_
          refine AllReadyH.cons (o := { dst := some 7, op := Go.Op.alloc 24, type := 0, pos := "wide.go:48", after := #[], guard := none }) rfl (fun K hK => ?_) AllReadyH.nil
          · go_simp
            refine hK.out _ _ (sm_alloc hHeld _) (fun hHeld2 => ?_)
            have g7 := hHeld.2.2.1.lt
            obtain ⟨W21, B7, hWn, hBn, h7⟩ : ∃ Wn B, W20.alloc (.cells #[.int .u64 0, .int .u64 0, .int .u64 0, .int .u64 0] 24) = Wn ∧ W20.heap.size = B ∧ At4 Wn B Zr := ⟨_, _, rfl, rfl, At4.new W20 Zr⟩
            have hne : B6 ≠ B7 := by have := h6.lt; omega
            have h6 : At4 W21 B6 Zr := hWn ▸ h6.alloc _
            rw [hBn] at g7
            rw [hWn] at hHeld2 ⊢
            rw [hBn]
            clear hK K hHeld hWn hBn
            have hHeld := hHeld2
            clear hHeld2
            try simp only [Act.put, List.setIfInBounds_toArray, List.set_cons_zero, List.set_cons_succ]
            exact tail _ _ _ hHeld h6 h7 hne g6 g7
        · go_simp
          refine hK.out _ _ (sm_alloc hHeld _) (fun hHeld2 => ?_)
          have g7 := hHeld.2.2.1.lt
          obtain ⟨W22, B7, hWn, hBn, h7⟩ : ∃ Wn B, W19.alloc (.cells #[.int .u64 0, .int .u64 0, .int .u64 0, .int .u64 0] 24) = Wn ∧ W19.heap.size = B ∧ At4 Wn B Zr := ⟨_, _, rfl, rfl, At4.new W19 Zr⟩
          have hne : B6 ≠ B7 := by have := h6.lt; omega
          have h6 : At4 W22 B6 Zr := hWn ▸ h6.alloc _
          rw [hBn] at g7
          rw [hWn] at hHeld2 ⊢
          rw [hBn]
          clear hK K hHeld hWn hBn
          have hHeld := hHeld2
          clear hHeld2
          try simp only [Act.put, List.setIfInBounds_toArray, List.set_cons_zero, List.set_cons_succ]
          refine wpAnyH_ready (rs := [4]) (by kernel_rfl) (by simp) ?_
          refine AllReadyH.cons (o := { dst := some 16, op := Go.Op.call { callee := Go.Callee.value (Go.Operand.func 55), args := #[Go.Operand.tmp 13, Go.Operand.tmp 15], argTypes := #[24, 24] }, type := 58, pos := "wide.go:48", after := #[{ on := 1, ground := Go.Ground.data }, { on := 3, ground := Go.Ground.data }, { on := 3, ground := Go.Ground.chain }], guard := none }) rfl (fun K hK => ?_) AllReadyH.nil
          · go_simp
            refine (hprod _).mono ?_
            rintro e W23 ⟨rfl, hBl⟩
            refine hK.out _ _ (sm_below hHeld hBl) (fun hHeld2 => ?_)
            clear hK K hHeld
            have hHeld := hHeld2
            clear hHeld2
            have h6 := h6.below hBl
            have h7 := h7.below hBl
            clear hBl
            try simp only [Act.put, List.setIfInBounds_toArray, List.set_cons_zero, List.set_cons_succ]
            refine wpAnyH_take (i := 5) (oi := { dst := some 11, op := Go.Op.move (Go.Operand.tmp 16), type := 58, pos := "wide.go:48", after := #[{ on := 4, ground := Go.Ground.data }], guard := none }) (v := ?_) rfl (by kernel_rfl) (by kernel_rfl) (by kernel_rfl) (fun _ _ _ h => h) (Or.inl ⟨by rfl, ?_⟩) (by assumption) ?_
            rotate_left
            · intro w hSw
              go_simp
              try with_reducible rfl
            try simp only [Act.put, List.setIfInBounds_toArray, List.set_cons_zero, List.set_cons_succ]
            refine wpAnyH_take (i := 6) (oi := { dst := some 17, op := Go.Op.extract (Go.Operand.tmp 11) 0, type := 24, pos := "wide.go:48", after := #[{ on := 5, ground := Go.Ground.data }], guard := none }) (v := ?_) rfl (by kernel_rfl) (by kernel_rfl) (by kernel_rfl) (fun _ _ _ h => h) (Or.inl ⟨by rfl, ?_⟩) (by assumption) ?_
            rotate_left
            · intro w hSw
              go_simp
              try with_reducible rfl
            try simp only [Act.put, List.setIfInBounds_toArray, List.set_cons_zero, List.set_cons_succ]
            refine wpAnyH_take (i := 7) (oi := { dst := some 18, op := Go.Op.extract (Go.Operand.tmp 11) 1, type := 24, pos := "wide.go:48", after := #[{ on := 5, ground := Go.Ground.data }, { on := 10, ground := Go.Ground.gcOnly Go.Departure.lateStores }], guard := none }) (v := ?_) rfl (by kernel_rfl) (by kernel_rfl) (by kernel_rfl) (fun _ _ _ h => h) (Or.inl ⟨by rfl, ?_⟩) (by assumption) ?_
            rotate_left
            · intro w hSw
              go_simp
              try with_reducible rfl
            try simp only [Act.put, List.setIfInBounds_toArray, List.set_cons_zero, List.set_cons_succ]
            exact tail _ _ _ hHeld h6 h7 hne g6 g7
      · go_simp
        refine hK.out _ _ (sm_alloc hHeld _) (fun hHeld2 => ?_)
        have g7 := hHeld.2.2.1.lt
        obtain ⟨W24, B7, hWn, hBn, h7⟩ : ∃ Wn B, W18.alloc (.cells #[.int .u64 0, .int .u64 0, .int .u64 0, .int .u64 0] 24) = Wn ∧ W18.heap.size = B ∧ At4 Wn B Zr := ⟨_, _, rfl, rfl, At4.new W18 Zr⟩
        have hne : B6 ≠ B7 := by have := h6.lt; omega
        have h6 : At4 W24 B6 Zr := hWn ▸ h6.alloc _
        rw [hBn] at g7
        rw [hWn] at hHeld2 ⊢
        rw [hBn]
        clear hK K hHeld hWn hBn
        have hHeld := hHeld2
        clear hHeld2
        try simp only [Act.put, List.setIfInBounds_toArray, List.set_cons_zero, List.set_cons_succ]
        refine wpAnyH_ready (rs := [3]) (by kernel_rfl) (by simp) ?_
        refine AllReadyH.cons (o := { dst := some 15, op := Go.Op.call { callee := Go.Callee.value (Go.Operand.func 56), args := #[Go.Operand.tmp 14], argTypes := #[24] }, type := 24, pos := "wide.go:48", after := #[{ on := 2, ground := Go.Ground.data }, { on := 1, ground := Go.Ground.chain }], guard := none }) rfl (fun K hK => ?_) AllReadyH.nil
        · go_simp
          refine (size_x b hb _).mono ?_
          rintro e W25 ⟨rfl, hBl⟩
          refine hK.out _ _ (sm_below hHeld hBl) (fun hHeld2 => ?_)
          clear hK K hHeld
          have hHeld := hHeld2
          clear hHeld2
          have h6 := h6.below hBl
          have h7 := h7.below hBl
          clear hBl
          try simp only [Act.put, List.setIfInBounds_toArray, List.set_cons_zero, List.set_cons_succ]
          refine wpAnyH_ready (rs := [4]) (by kernel_rfl) (by simp) ?_
          refine AllReadyH.cons (o := { dst := some 16, op := Go.Op.call { callee := Go.Callee.value (Go.Operand.func 55), args := #[Go.Operand.tmp 13, Go.Operand.tmp 15], argTypes := #[24, 24] }, type := 58, pos := "wide.go:48", after := #[{ on := 1, ground := Go.Ground.data }, { on := 3, ground := Go.Ground.data }, { on := 3, ground := Go.Ground.chain }], guard := none }) rfl (fun K hK => ?_) AllReadyH.nil
          · go_simp
            refine (hprod _).mono ?_
            rintro e W26 ⟨rfl, hBl⟩
            refine hK.out _ _ (sm_below hHeld hBl) (fun hHeld2 => ?_)
            clear hK K hHeld
            have hHeld := hHeld2
            clear hHeld2
            have h6 := h6.below hBl
            have h7 := h7.below hBl
            clear hBl
            try simp only [Act.put, List.setIfInBounds_toArray, List.set_cons_zero, List.set_cons_succ]
            refine wpAnyH_take (i := 5) (oi := { dst := some 11, op := Go.Op.move (Go.Operand.tmp 16), type := 58, pos := "wide.go:48", after := #[{ on := 4, ground := Go.Ground.data }], guard := none }) (v := ?_) rfl (by kernel_rfl) (by kernel_rfl) (by kernel_rfl) (fun _ _ _ h => h) (Or.inl ⟨by rfl, ?_⟩) (by assumption) ?_
            rotate_left
            · intro w hSw
              go_simp
              try with_reducible rfl
            try simp only [Act.put, List.setIfInBounds_toArray, List.set_cons_zero, List.set_cons_succ]
            refine wpAnyH_take (i := 6) (oi := { dst := some 17, op := Go.Op.extract (Go.Operand.tmp 11) 0, type := 24, pos := "wide.go:48", after := #[{ on := 5, ground := Go.Ground.data }], guard := none }) (v := ?_) rfl (by kernel_rfl) (by kernel_rfl) (by kernel_rfl) (fun _ _ _ h => h) (Or.inl ⟨by rfl, ?_⟩) (by assumption) ?_
            rotate_left
            · intro w hSw
              go_simp
              try with_reducible rfl
            try simp only [Act.put, List.setIfInBounds_toArray, List.set_cons_zero, List.set_cons_succ]
            refine wpAnyH_take (i := 7) (oi := { dst := some 18, op := Go.Op.extract (Go.Operand.tmp 11) 1, type := 24, pos := "wide.go:48", after := #[{ on := 5, ground := Go.Ground.data }, { on := 10, ground := Go.Ground.gcOnly Go.Departure.lateStores }], guard := none }) (v := ?_) rfl (by kernel_rfl) (by kernel_rfl) (by kernel_rfl) (fun _ _ _ h => h) (Or.inl ⟨by rfl, ?_⟩) (by assumption) ?_
            rotate_left
            · intro w hSw
              go_simp
              try with_reducible rfl
            try simp only [Act.put, List.setIfInBounds_toArray, List.set_cons_zero, List.set_cons_succ]
            exact tail _ _ _ hHeld h6 h7 hne g6 g7
    · go_simp
      refine hK.out _ _ (sm_alloc hHeld _) (fun hHeld2 => ?_)
      have g7 := hHeld.2.2.1.lt
      obtain ⟨W27, B7, hWn, hBn, h7⟩ : ∃ Wn B, W1.alloc (.cells #[.int .u64 0, .int .u64 0, .int .u64 0, .int .u64 0] 24) = Wn ∧ W1.heap.size = B ∧ At4 Wn B Zr := ⟨_, _, rfl, rfl, At4.new W1 Zr⟩
      rw [hBn] at g7
      rw [hWn] at hHeld2 ⊢
      rw [hBn]
      clear hK K hHeld hWn hBn
      have hHeld := hHeld2
      clear hHeld2
      try simp only [Act.put, List.setIfInBounds_toArray, List.set_cons_zero, List.set_cons_succ]
      refine wpAnyH_ready (rs := [3, 8]) (by kernel_rfl) (by simp) ?_
      refine AllReadyH.cons (o := { dst := some 15, op := Go.Op.call { callee := Go.Callee.value (Go.Operand.func 56), args := #[Go.Operand.tmp 14], argTypes := #[24] }, type := 24, pos := "wide.go:48", after := #[{ on := 2, ground := Go.Ground.data }, { on := 1, ground := Go.Ground.chain }], guard := none }) rfl (fun K hK => ?_) (AllReadyH.cons (o := { dst := some 6, op := Go.Op.alloc 24, type := 0, pos := "wide.go:48", after := #[], guard := none }) rfl (fun K hK => ?_) AllReadyH.nil)
      · go_simp
        refine (size_x b hb _).mono ?_
        rintro e W28 ⟨rfl, hBl⟩
        refine hK.out _ _ (sm_below hHeld hBl) (fun hHeld2 => ?_)
        clear hK K hHeld
        have hHeld := hHeld2
        clear hHeld2
        have h7 := h7.below hBl
        clear hBl
        try simp only [Act.put, List.setIfInBounds_toArray, List.set_cons_zero, List.set_cons_succ]
        refine wpAnyH_ready (rs := [4, 8]) (by kernel_rfl) (by simp) ?_
        refine AllReadyH.cons (o := { dst := some 16, op := Go.Op.call { callee := Go.Callee.value (Go.Operand.func 55), args := #[Go.Operand.tmp 13, Go.Operand.tmp 15], argTypes := #[24, 24] }, type := 58, pos := "wide.go:48", after := #[{ on := 1, ground := Go.Ground.data }, { on := 3, ground := Go.Ground.data }, { on := 3, ground := Go.Ground.chain }], guard := none }) rfl (fun K hK => ?_) (AllReadyH.cons (o := { dst := some 6, op := Go.Op.alloc 24, type := 0, pos := "wide.go:48", after := #[], guard := none }) rfl (fun K hK => ?_) AllReadyH.nil)
        · go_simp
          refine (hprod _).mono ?_
          rintro e W29 ⟨rfl, hBl⟩
          refine hK.out _ _ (sm_below hHeld hBl) (fun hHeld2 => ?_)
          clear hK K hHeld
          have hHeld := hHeld2
          clear hHeld2
          have h7 := h7.below hBl
          clear hBl
          try simp only [Act.put, List.setIfInBounds_toArray, List.set_cons_zero, List.set_cons_succ]
          refine wpAnyH_take (i := 5) (oi := { dst := some 11, op := Go.Op.move (Go.Operand.tmp 16), type := 58, pos := "wide.go:48", after := #[{ on := 4, ground := Go.Ground.data }], guard := none }) (v := ?_) rfl (by kernel_rfl) (by kernel_rfl) (by kernel_rfl) (fun _ _ _ h => h) (Or.inl ⟨by rfl, ?_⟩) (by assumption) ?_
          rotate_left
          · intro w hSw
            go_simp
            try with_reducible rfl
          try simp only [Act.put, List.setIfInBounds_toArray, List.set_cons_zero, List.set_cons_succ]
          refine wpAnyH_take (i := 6) (oi := { dst := some 17, op := Go.Op.extract (Go.Operand.tmp 11) 0, type := 24, pos := "wide.go:48", after := #[{ on := 5, ground := Go.Ground.data }], guard := none }) (v := ?_) rfl (by kernel_rfl) (by kernel_rfl) (by kernel_rfl) (fun _ _ _ h => h) (Or.inl ⟨by rfl, ?_⟩) (by assumption) ?_
          rotate_left
          · intro w hSw
            go_simp
            try with_reducible rfl
          try simp only [Act.put, List.setIfInBounds_toArray, List.set_cons_zero, List.set_cons_succ]
          refine wpAnyH_take (i := 7) (oi := { dst := some 18, op := Go.Op.extract (Go.Operand.tmp 11) 1, type := 24, pos := "wide.go:48", after := #[{ on := 5, ground := Go.Ground.data }, { on := 10, ground := Go.Ground.gcOnly Go.Departure.lateStores }], guard := none }) (v := ?_) rfl (by kernel_rfl) (by kernel_rfl) (by kernel_rfl) (fun _ _ _ h => h) (Or.inl ⟨by rfl, ?_⟩) (by assumption) ?_
          rotate_left
          · intro w hSw
            go_simp
            try with_reducible rfl
          try simp only [Act.put, List.setIfInBounds_toArray, List.set_cons_zero, List.set_cons_succ]
          refine wpAnyH_ready (rs := [8]) (by kernel_rfl) (by simp) ?_
          refine AllReadyH.cons (o := { dst := some 6, op := Go.Op.alloc 24, type := 0, pos := "wide.go:48", after := #[], guard := none }) rfl (fun K hK => ?_) AllReadyH.nil
          · go_simp
            refine hK.out _ _ (sm_alloc hHeld _) (fun hHeld2 => ?_)
            have g6 := hHeld.2.2.1.lt
            obtain ⟨W30, B6, hWn, hBn, h6⟩ : ∃ Wn B, W29.alloc (.cells #[.int .u64 0, .int .u64 0, .int .u64 0, .int .u64 0] 24) = Wn ∧ W29.heap.size = B ∧ At4 Wn B Zr := ⟨_, _, rfl, rfl, At4.new W29 Zr⟩
            have hne : B6 ≠ B7 := by have := h7.lt; omega
            have h7 : At4 W30 B7 Zr := hWn ▸ h7.alloc _
            rw [hBn] at g6
            rw [hWn] at hHeld2 ⊢
            rw [hBn]
            clear hK K hHeld hWn hBn
            have hHeld := hHeld2
            clear hHeld2
            try simp only [Act.put, List.setIfInBounds_toArray, List.set_cons_zero, List.set_cons_succ]
            exact tail _ _ _ hHeld h6 h7 hne g6 g7
        · go_simp
          refine hK.out _ _ (sm_alloc hHeld _) (fun hHeld2 => ?_)
          have g6 := hHeld.2.2.1.lt
          obtain ⟨W31, B6, hWn, hBn, h6⟩ : ∃ Wn B, W28.alloc (.cells #[.int .u64 0, .int .u64 0, .int .u64 0, .int .u64 0] 24) = Wn ∧ W28.heap.size = B ∧ At4 Wn B Zr := ⟨_, _, rfl, rfl, At4.new W28 Zr⟩
          have hne : B6 ≠ B7 := by have := h7.lt; omega
          have h7 : At4 W31 B7 Zr := hWn ▸ h7.alloc _
          rw [hBn] at g6
          rw [hWn] at hHeld2 ⊢
          rw [hBn]
          clear hK K hHeld hWn hBn
          have hHeld := hHeld2
          clear hHeld2
          try simp only [Act.put, List.setIfInBounds_toArray, List.set_cons_zero, List.set_cons_succ]
          refine wpAnyH_ready (rs := [4]) (by kernel_rfl) (by simp) ?_
          refine AllReadyH.cons (o := { dst := some 16, op := Go.Op.call { callee := Go.Callee.value (Go.Operand.func 55), args := #[Go.Operand.tmp 13, Go.Operand.tmp 15], argTypes := #[24, 24] }, type := 58, pos := "wide.go:48", after := #[{ on := 1, ground := Go.Ground.data }, { on := 3, ground := Go.Ground.data }, { on := 3, ground := Go.Ground.chain }], guard := none }) rfl (fun K hK => ?_) AllReadyH.nil
          · go_simp
            refine (hprod _).mono ?_
            rintro e W32 ⟨rfl, hBl⟩
            refine hK.out _ _ (sm_below hHeld hBl) (fun hHeld2 => ?_)
            clear hK K hHeld
            have hHeld := hHeld2
            clear hHeld2
            have h6 := h6.below hBl
            have h7 := h7.below hBl
            clear hBl
            try simp only [Act.put, List.setIfInBounds_toArray, List.set_cons_zero, List.set_cons_succ]
            refine wpAnyH_take (i := 5) (oi := { dst := some 11, op := Go.Op.move (Go.Operand.tmp 16), type := 58, pos := "wide.go:48", after := #[{ on := 4, ground := Go.Ground.data }], guard := none }) (v := ?_) rfl (by kernel_rfl) (by kernel_rfl) (by kernel_rfl) (fun _ _ _ h => h) (Or.inl ⟨by rfl, ?_⟩) (by assumption) ?_
            rotate_left
            · intro w hSw
              go_simp
              try with_reducible rfl
            try simp only [Act.put, List.setIfInBounds_toArray, List.set_cons_zero, List.set_cons_succ]
            refine wpAnyH_take (i := 6) (oi := { dst := some 17, op := Go.Op.extract (Go.Operand.tmp 11) 0, type := 24, pos := "wide.go:48", after := #[{ on := 5, ground := Go.Ground.data }], guard := none }) (v := ?_) rfl (by kernel_rfl) (by kernel_rfl) (by kernel_rfl) (fun _ _ _ h => h) (Or.inl ⟨by rfl, ?_⟩) (by assumption) ?_
            rotate_left
            · intro w hSw
              go_simp
              try with_reducible rfl
            try simp only [Act.put, List.setIfInBounds_toArray, List.set_cons_zero, List.set_cons_succ]
            refine wpAnyH_take (i := 7) (oi := { dst := some 18, op := Go.Op.extract (Go.Operand.tmp 11) 1, type := 24, pos := "wide.go:48", after := #[{ on := 5, ground := Go.Ground.data }, { on := 10, ground := Go.Ground.gcOnly Go.Departure.lateStores }], guard := none }) (v := ?_) rfl (by kernel_rfl) (by kernel_rfl) (by kernel_rfl) (fun _ _ _ h => h) (Or.inl ⟨by rfl, ?_⟩) (by assumption) ?_
            rotate_left
            · intro w hSw
              go_simp
              try with_reducible rfl
            try simp only [Act.put, List.setIfInBounds_toArray, List.set_cons_zero, List.set_cons_succ]
            exact tail _ _ _ hHeld h6 h7 hne g6 g7
      · go_simp
        refine hK.out _ _ (sm_alloc hHeld _) (fun hHeld2 => ?_)
        have g6 := hHeld.2.2.1.lt
        obtain ⟨W33, B6, hWn, hBn, h6⟩ : ∃ Wn B, W27.alloc (.cells #[.int .u64 0, .int .u64 0, .int .u64 0, .int .u64 0] 24) = Wn ∧ W27.heap.size = B ∧ At4 Wn B Zr := ⟨_, _, rfl, rfl, At4.new W27 Zr⟩
        have hne : B6 ≠ B7 := by have := h7.lt; omega
        have h7 : At4 W33 B7 Zr := hWn ▸ h7.alloc _
        rw [hBn] at g6
        rw [hWn] at hHeld2 ⊢
        rw [hBn]
        clear hK K hHeld hWn hBn
        have hHeld := hHeld2
        clear hHeld2
        try simp only [Act.put, List.setIfInBounds_toArray, List.set_cons_zero, List.set_cons_succ]
        refine wpAnyH_ready (rs := [3]) (by kernel_rfl) (by simp) ?_
        refine AllReadyH.cons (o := { dst := some 15, op := Go.Op.call { callee := Go.Callee.value (Go.Operand.func 56), args := #[Go.Operand.tmp 14], argTypes := #[24] }, type := 24, pos := "wide.go:48", after := #[{ on := 2, ground := Go.Ground.data }, { on := 1, ground := Go.Ground.chain }], guard := none }) rfl (fun K hK => ?_) AllReadyH.nil
        · go_simp
          refine (size_x b hb _).mono ?_
          rintro e W34 ⟨rfl, hBl⟩
          refine hK.out _ _ (sm_below hHeld hBl) (fun hHeld2 => ?_)
          clear hK K hHeld
          have hHeld := hHeld2
          clear hHeld2
          have h6 := h6.below hBl
          have h7 := h7.below hBl
          clear hBl
          try simp only [Act.put, List.setIfInBounds_toArray, List.set_cons_zero, List.set_cons_succ]
          refine wpAnyH_ready (rs := [4]) (by kernel_rfl) (by simp) ?_
          refine AllReadyH.cons (o := { dst := some 16, op := Go.Op.call { callee := Go.Callee.value (Go.Operand.func 55), args := #[Go.Operand.tmp 13, Go.Operand.tmp 15], argTypes := #[24, 24] }, type := 58, pos := "wide.go:48", after := #[{ on := 1, ground := Go.Ground.data }, { on := 3, ground := Go.Ground.data }, { on := 3, ground := Go.Ground.chain }], guard := none }) rfl (fun K hK => ?_) AllReadyH.nil
          · go_simp
            refine (hprod _).mono ?_
            rintro e W35 ⟨rfl, hBl⟩
            refine hK.out _ _ (sm_below hHeld hBl) (fun hHeld2 => ?_)
            clear hK K hHeld
            have hHeld := hHeld2
            clear hHeld2
            have h6 := h6.below hBl
            have h7 := h7.below hBl
            clear hBl
            try simp only [Act.put, List.setIfInBounds_toArray, List.set_cons_zero, List.set_cons_succ]
            refine wpAnyH_take (i := 5) (oi := { dst := some 11, op := Go.Op.move (Go.Operand.tmp 16), type := 58, pos := "wide.go:48", after := #[{ on := 4, ground := Go.Ground.data }], guard := none }) (v := ?_) rfl (by kernel_rfl) (by kernel_rfl) (by kernel_rfl) (fun _ _ _ h => h) (Or.inl ⟨by rfl, ?_⟩) (by assumption) ?_
            rotate_left
            · intro w hSw
              go_simp
              try with_reducible rfl
            try simp only [Act.put, List.setIfInBounds_toArray, List.set_cons_zero, List.set_cons_succ]
            refine wpAnyH_take (i := 6) (oi := { dst := some 17, op := Go.Op.extract (Go.Operand.tmp 11) 0, type := 24, pos := "wide.go:48", after := #[{ on := 5, ground := Go.Ground.data }], guard := none }) (v := ?_) rfl (by kernel_rfl) (by kernel_rfl) (by kernel_rfl) (fun _ _ _ h => h) (Or.inl ⟨by rfl, ?_⟩) (by assumption) ?_
            rotate_left
            · intro w hSw
              go_simp
              try with_reducible rfl
            try simp only [Act.put, List.setIfInBounds_toArray, List.set_cons_zero, List.set_cons_succ]
            refine wpAnyH_take (i := 7) (oi := { dst := some 18, op := Go.Op.extract (Go.Operand.tmp 11) 1, type := 24, pos := "wide.go:48", after := #[{ on := 5, ground := Go.Ground.data }, { on := 10, ground := Go.Ground.gcOnly Go.Departure.lateStores }], guard := none }) (v := ?_) rfl (by kernel_rfl) (by kernel_rfl) (by kernel_rfl) (fun _ _ _ h => h) (Or.inl ⟨by rfl, ?_⟩) (by assumption) ?_
            rotate_left
            · intro w hSw
              go_simp
              try with_reducible rfl
            try simp only [Act.put, List.setIfInBounds_toArray, List.set_cons_zero, List.set_cons_succ]
            exact tail _ _ _ hHeld h6 h7 hne g6 g7
  · go_simp
    refine hK.out _ _ (sm_alloc hHeld _) (fun hHeld2 => ?_)
    have g6 := hHeld.2.2.1.lt
    obtain ⟨W36, B6, hWn, hBn, h6⟩ : ∃ Wn B, W0.alloc (.cells #[.int .u64 0, .int .u64 0, .int .u64 0, .int .u64 0] 24) = Wn ∧ W0.heap.size = B ∧ At4 Wn B Zr := ⟨_, _, rfl, rfl, At4.new W0 Zr⟩
    rw [hBn] at g6
    rw [hWn] at hHeld2 ⊢
    rw [hBn]
    clear hK K hHeld hWn hBn
    have hHeld := hHeld2
    clear hHeld2
    try simp only [Act.put, List.setIfInBounds_toArray, List.set_cons_zero, List.set_cons_succ]
    refine wpAnyH_ready (rs := [1, 9]) (by kernel_rfl) (by simp) ?_
    refine AllReadyH.cons (o := { dst := some 13, op := Go.Op.call { callee := Go.Callee.value (Go.Operand.func 56), args := #[Go.Operand.tmp 12], argTypes := #[24] }, type := 24, pos := "wide.go:48", after := #[{ on := 0, ground := Go.Ground.data }], guard := none }) rfl (fun K hK => ?_) (AllReadyH.cons (o := { dst := some 7, op := Go.Op.alloc 24, type := 0, pos := "wide.go:48", after := #[], guard := none }) rfl (fun K hK => ?_) AllReadyH.nil)
    · go_simp
      refine (size_x a ha _).mono ?_
      rintro e W37 ⟨rfl, hBl⟩
      refine hK.out _ _ (sm_below hHeld hBl) (fun hHeld2 => ?_)
      clear hK K hHeld
      have hHeld := hHeld2
      clear hHeld2
      have h6 := h6.below hBl
      clear hBl
      try simp only [Act.put, List.setIfInBounds_toArray, List.set_cons_zero, List.set_cons_succ]
      refine wpAnyH_ready (rs := [3, 9]) (by kernel_rfl) (by simp) ?_
      refine AllReadyH.cons (o := { dst := some 15, op := Go.Op.call { callee := Go.Callee.value (Go.Operand.func 56), args := #[Go.Operand.tmp 14], argTypes := #[24] }, type := 24, pos := "wide.go:48", after := #[{ on := 2, ground := Go.Ground.data }, { on := 1, ground := Go.Ground.chain }], guard := none }) rfl (fun K hK => ?_) (AllReadyH.cons (o := { dst := some 7, op := Go.Op.alloc 24, type := 0, pos := "wide.go:48", after := #[], guard := none }) rfl (fun K hK => ?_) AllReadyH.nil)
      · go_simp
        refine (size_x b hb _).mono ?_
        rintro e W38 ⟨rfl, hBl⟩
        refine hK.out _ _ (sm_below hHeld hBl) (fun hHeld2 => ?_)
        clear hK K hHeld
        have hHeld := hHeld2
        clear hHeld2
        have h6 := h6.below hBl
        clear hBl
        try simp only [Act.put, List.setIfInBounds_toArray, List.set_cons_zero, List.set_cons_succ]
        refine wpAnyH_ready (rs := [4, 9]) (by kernel_rfl) (by simp) ?_
        refine AllReadyH.cons (o := { dst := some 16, op := Go.Op.call { callee := Go.Callee.value (Go.Operand.func 55), args := #[Go.Operand.tmp 13, Go.Operand.tmp 15], argTypes := #[24, 24] }, type := 58, pos := "wide.go:48", after := #[{ on := 1, ground := Go.Ground.data }, { on := 3, ground := Go.Ground.data }, { on := 3, ground := Go.Ground.chain }], guard := none }) rfl (fun K hK => ?_) (AllReadyH.cons (o := { dst := some 7, op := Go.Op.alloc 24, type := 0, pos := "wide.go:48", after := #[], guard := none }) rfl (fun K hK => ?_) AllReadyH.nil)
        · go_simp
          refine (hprod _).mono ?_
          rintro e W39 ⟨rfl, hBl⟩
          refine hK.out _ _ (sm_below hHeld hBl) (fun hHeld2 => ?_)
          clear hK K hHeld
          have hHeld := hHeld2
          clear hHeld2
          have h6 := h6.below hBl
          clear hBl
          try simp only [Act.put, List.setIfInBounds_toArray, List.set_cons_zero, List.set_cons_succ]
          refine wpAnyH_take (i := 5) (oi := { dst := some 11, op := Go.Op.move (Go.Operand.tmp 16), type := 58, pos := "wide.go:48", after := #[{ on := 4, ground := Go.Ground.data }], guard := none }) (v := ?_) rfl (by kernel_rfl) (by kernel_rfl) (by kernel_rfl) (fun _ _ _ h => h) (Or.inl ⟨by rfl, ?_⟩) (by assumption) ?_
          rotate_left
          · intro w hSw
            go_simp
            try with_reducible rfl
          try simp only [Act.put, List.setIfInBounds_toArray, List.set_cons_zero, List.set_cons_succ]
          refine wpAnyH_take (i := 6) (oi := { dst := some 17, op := Go.Op.extract (Go.Operand.tmp 11) 0, type := 24, pos := "wide.go:48", after := #[{ on := 5, ground := Go.Ground.data }], guard := none }) (v := ?_) rfl (by kernel_rfl) (by kernel_rfl) (by kernel_rfl) (fun _ _ _ h => h) (Or.inl ⟨by rfl, ?_⟩) (by assumption) ?_
          rotate_left
          · intro w hSw
            go_simp
            try with_reducible rfl
          try simp only [Act.put, List.setIfInBounds_toArray, List.set_cons_zero, List.set_cons_succ]
          refine wpAnyH_take (i := 7) (oi := { dst := some 18, op := Go.Op.extract (Go.Operand.tmp 11) 1, type := 24, pos := "wide.go:48", after := #[{ on := 5, ground := Go.Ground.data }, { on := 10, ground := Go.Ground.gcOnly Go.Departure.lateStores }], guard := none }) (v := ?_) rfl (by kernel_rfl) (by kernel_rfl) (by kernel_rfl) (fun _ _ _ h => h) (Or.inl ⟨by rfl, ?_⟩) (by assumption) ?_
          rotate_left
          · intro w hSw
            go_simp
            try with_reducible rfl
          try simp only [Act.put, List.setIfInBounds_toArray, List.set_cons_zero, List.set_cons_succ]
          refine wpAnyH_ready (rs := [9]) (by kernel_rfl) (by simp) ?_
          refine AllReadyH.cons (o := { dst := some 7, op := Go.Op.alloc 24, type := 0, pos := "wide.go:48", after := #[], guard := none }) rfl (fun K hK => ?_) AllReadyH.nil
          · go_simp
            refine hK.out _ _ (sm_alloc hHeld _) (fun hHeld2 => ?_)
            have g7 := hHeld.2.2.1.lt
            obtain ⟨W40, B7, hWn, hBn, h7⟩ : ∃ Wn B, W39.alloc (.cells #[.int .u64 0, .int .u64 0, .int .u64 0, .int .u64 0] 24) = Wn ∧ W39.heap.size = B ∧ At4 Wn B Zr := ⟨_, _, rfl, rfl, At4.new W39 Zr⟩
            have hne : B6 ≠ B7 := by have := h6.lt; omega
            have h6 : At4 W40 B6 Zr := hWn ▸ h6.alloc _
            rw [hBn] at g7
            rw [hWn] at hHeld2 ⊢
            rw [hBn]
            clear hK K hHeld hWn hBn
            have hHeld := hHeld2
            clear hHeld2
            try simp only [Act.put, List.setIfInBounds_toArray, List.set_cons_zero, List.set_cons_succ]
            exact tail _ _ _ hHeld h6 h7 hne g6 g7
        · go_simp
          refine hK.out _ _ (sm_alloc hHeld _) (fun hHeld2 => ?_)
          have g7 := hHeld.2.2.1.lt
          obtain ⟨W41, B7, hWn, hBn, h7⟩ : ∃ Wn B, W38.alloc (.cells #[.int .u64 0, .int .u64 0, .int .u64 0, .int .u64 0] 24) = Wn ∧ W38.heap.size = B ∧ At4 Wn B Zr := ⟨_, _, rfl, rfl, At4.new W38 Zr⟩
          have hne : B6 ≠ B7 := by have := h6.lt; omega
          have h6 : At4 W41 B6 Zr := hWn ▸ h6.alloc _
          rw [hBn] at g7
          rw [hWn] at hHeld2 ⊢
          rw [hBn]
          clear hK K hHeld hWn hBn
          have hHeld := hHeld2
          clear hHeld2
          try simp only [Act.put, List.setIfInBounds_toArray, List.set_cons_zero, List.set_cons_succ]
          refine wpAnyH_ready (rs := [4]) (by kernel_rfl) (by simp) ?_
          refine AllReadyH.cons (o := { dst := some 16, op := Go.Op.call { callee := Go.Callee.value (Go.Operand.func 55), args := #[Go.Operand.tmp 13, Go.Operand.tmp 15], argTypes := #[24, 24] }, type := 58, pos := "wide.go:48", after := #[{ on := 1, ground := Go.Ground.data }, { on := 3, ground := Go.Ground.data }, { on := 3, ground := Go.Ground.chain }], guard := none }) rfl (fun K hK => ?_) AllReadyH.nil
          · go_simp
            refine (hprod _).mono ?_
            rintro e W42 ⟨rfl, hBl⟩
            refine hK.out _ _ (sm_below hHeld hBl) (fun hHeld2 => ?_)
            clear hK K hHeld
            have hHeld := hHeld2
            clear hHeld2
            have h6 := h6.below hBl
            have h7 := h7.below hBl
            clear hBl
            try simp only [Act.put, List.setIfInBounds_toArray, List.set_cons_zero, List.set_cons_succ]
            refine wpAnyH_take (i := 5) (oi := { dst := some 11, op := Go.Op.move (Go.Operand.tmp 16), type := 58, pos := "wide.go:48", after := #[{ on := 4, ground := Go.Ground.data }], guard := none }) (v := ?_) rfl (by kernel_rfl) (by kernel_rfl) (by kernel_rfl) (fun _ _ _ h => h) (Or.inl ⟨by rfl, ?_⟩) (by assumption) ?_
            rotate_left
            · intro w hSw
              go_simp
              try with_reducible rfl
            try simp only [Act.put, List.setIfInBounds_toArray, List.set_cons_zero, List.set_cons_succ]
            refine wpAnyH_take (i := 6) (oi := { dst := some 17, op := Go.Op.extract (Go.Operand.tmp 11) 0, type := 24, pos := "wide.go:48", after := #[{ on := 5, ground := Go.Ground.data }], guard := none }) (v := ?_) rfl (by kernel_rfl) (by kernel_rfl) (by kernel_rfl) (fun _ _ _ h => h) (Or.inl ⟨by rfl, ?_⟩) (by assumption) ?_
            rotate_left
            · intro w hSw
              go_simp
              try with_reducible rfl
            try simp only [Act.put, List.setIfInBounds_toArray, List.set_cons_zero, List.set_cons_succ]
            refine wpAnyH_take (i := 7) (oi := { dst := some 18, op := Go.Op.extract (Go.Operand.tmp 11) 1, type := 24, pos := "wide.go:48", after := #[{ on := 5, ground := Go.Ground.data }, { on := 10, ground := Go.Ground.gcOnly Go.Departure.lateStores }], guard := none }) (v := ?_) rfl (by kernel_rfl) (by kernel_rfl) (by kernel_rfl) (fun _ _ _ h => h) (Or.inl ⟨by rfl, ?_⟩) (by assumption) ?_
            rotate_left
            · intro w hSw
              go_simp
              try with_reducible rfl
            try simp only [Act.put, List.setIfInBounds_toArray, List.set_cons_zero, List.set_cons_succ]
            exact tail _ _ _ hHeld h6 h7 hne g6 g7
      · go_simp
        refine hK.out _ _ (sm_alloc hHeld _) (fun hHeld2 => ?_)
        have g7 := hHeld.2.2.1.lt
        obtain ⟨W43, B7, hWn, hBn, h7⟩ : ∃ Wn B, W37.alloc (.cells #[.int .u64 0, .int .u64 0, .int .u64 0, .int .u64 0] 24) = Wn ∧ W37.heap.size = B ∧ At4 Wn B Zr := ⟨_, _, rfl, rfl, At4.new W37 Zr⟩
        have hne : B6 ≠ B7 := by have := h6.lt; omega
        have h6 : At4 W43 B6 Zr := hWn ▸ h6.alloc _
        rw [hBn] at g7
        rw [hWn] at hHeld2 ⊢
        rw [hBn]
        clear hK K hHeld hWn hBn
        have hHeld := hHeld2
        clear hHeld2
        try simp only [Act.put, List.setIfInBounds_toArray, List.set_cons_zero, List.set_cons_succ]
        refine wpAnyH_ready (rs := [3]) (by kernel_rfl) (by simp) ?_
        refine AllReadyH.cons (o := { dst := some 15, op := Go.Op.call { callee := Go.Callee.value (Go.Operand.func 56), args := #[Go.Operand.tmp 14], argTypes := #[24] }, type := 24, pos := "wide.go:48", after := #[{ on := 2, ground := Go.Ground.data }, { on := 1, ground := Go.Ground.chain }], guard := none }) rfl (fun K hK => ?_) AllReadyH.nil
        · go_simp
          refine (size_x b hb _).mono ?_
          rintro e W44 ⟨rfl, hBl⟩
          refine hK.out _ _ (sm_below hHeld hBl) (fun hHeld2 => ?_)
          clear hK K hHeld
          have hHeld := hHeld2
          clear hHeld2
          have h6 := h6.below hBl
          have h7 := h7.below hBl
          clear hBl
          try simp only [Act.put, List.setIfInBounds_toArray, List.set_cons_zero, List.set_cons_succ]
          refine wpAnyH_ready (rs := [4]) (by kernel_rfl) (by simp) ?_
          refine AllReadyH.cons (o := { dst := some 16, op := Go.Op.call { callee := Go.Callee.value (Go.Operand.func 55), args := #[Go.Operand.tmp 13, Go.Operand.tmp 15], argTypes := #[24, 24] }, type := 58, pos := "wide.go:48", after := #[{ on := 1, ground := Go.Ground.data }, { on := 3, ground := Go.Ground.data }, { on := 3, ground := Go.Ground.chain }], guard := none }) rfl (fun K hK => ?_) AllReadyH.nil
          · go_simp
            refine (hprod _).mono ?_
            rintro e W45 ⟨rfl, hBl⟩
            refine hK.out _ _ (sm_below hHeld hBl) (fun hHeld2 => ?_)
            clear hK K hHeld
            have hHeld := hHeld2
            clear hHeld2
            have h6 := h6.below hBl
            have h7 := h7.below hBl
            clear hBl
            try simp only [Act.put, List.setIfInBounds_toArray, List.set_cons_zero, List.set_cons_succ]
            refine wpAnyH_take (i := 5) (oi := { dst := some 11, op := Go.Op.move (Go.Operand.tmp 16), type := 58, pos := "wide.go:48", after := #[{ on := 4, ground := Go.Ground.data }], guard := none }) (v := ?_) rfl (by kernel_rfl) (by kernel_rfl) (by kernel_rfl) (fun _ _ _ h => h) (Or.inl ⟨by rfl, ?_⟩) (by assumption) ?_
            rotate_left
            · intro w hSw
              go_simp
              try with_reducible rfl
            try simp only [Act.put, List.setIfInBounds_toArray, List.set_cons_zero, List.set_cons_succ]
            refine wpAnyH_take (i := 6) (oi := { dst := some 17, op := Go.Op.extract (Go.Operand.tmp 11) 0, type := 24, pos := "wide.go:48", after := #[{ on := 5, ground := Go.Ground.data }], guard := none }) (v := ?_) rfl (by kernel_rfl) (by kernel_rfl) (by kernel_rfl) (fun _ _ _ h => h) (Or.inl ⟨by rfl, ?_⟩) (by assumption) ?_
            rotate_left
            · intro w hSw
              go_simp
              try with_reducible rfl
            try simp only [Act.put, List.setIfInBounds_toArray, List.set_cons_zero, List.set_cons_succ]
            refine wpAnyH_take (i := 7) (oi := { dst := some 18, op := Go.Op.extract (Go.Operand.tmp 11) 1, type := 24, pos := "wide.go:48", after := #[{ on := 5, ground := Go.Ground.data }, { on := 10, ground := Go.Ground.gcOnly Go.Departure.lateStores }], guard := none }) (v := ?_) rfl (by kernel_rfl) (by kernel_rfl) (by kernel_rfl) (fun _ _ _ h => h) (Or.inl ⟨by rfl, ?_⟩) (by assumption) ?_
            rotate_left
            · intro w hSw
              go_simp
              try with_reducible rfl
            try simp only [Act.put, List.setIfInBounds_toArray, List.set_cons_zero, List.set_cons_succ]
            exact tail _ _ _ hHeld h6 h7 hne g6 g7
    · go_simp
      refine hK.out _ _ (sm_alloc hHeld _) (fun hHeld2 => ?_)
      have g7 := hHeld.2.2.1.lt
      obtain ⟨W46, B7, hWn, hBn, h7⟩ : ∃ Wn B, W36.alloc (.cells #[.int .u64 0, .int .u64 0, .int .u64 0, .int .u64 0] 24) = Wn ∧ W36.heap.size = B ∧ At4 Wn B Zr := ⟨_, _, rfl, rfl, At4.new W36 Zr⟩
      have hne : B6 ≠ B7 := by have := h6.lt; omega
      have h6 : At4 W46 B6 Zr := hWn ▸ h6.alloc _
      rw [hBn] at g7
      rw [hWn] at hHeld2 ⊢
      rw [hBn]
      clear hK K hHeld hWn hBn
      have hHeld := hHeld2
      clear hHeld2
      try simp only [Act.put, List.setIfInBounds_toArray, List.set_cons_zero, List.set_cons_succ]
      refine wpAnyH_ready (rs := [1]) (by kernel_rfl) (by simp) ?_
      refine AllReadyH.cons (o := { dst := some 13, op := Go.Op.call { callee := Go.Callee.value (Go.Operand.func 56), args := #[Go.Operand.tmp 12], argTypes := #[24] }, type := 24, pos := "wide.go:48", after := #[{ on := 0, ground := Go.Ground.data }], guard := none }) rfl (fun K hK => ?_) AllReadyH.nil
      · go_simp
        refine (size_x a ha _).mono ?_
        rintro e W47 ⟨rfl, hBl⟩
        refine hK.out _ _ (sm_below hHeld hBl) (fun hHeld2 => ?_)
        clear hK K hHeld
        have hHeld := hHeld2
        clear hHeld2
        have h6 := h6.below hBl
        have h7 := h7.below hBl
        clear hBl
        try simp only [Act.put, List.setIfInBounds_toArray, List.set_cons_zero, List.set_cons_succ]
        refine wpAnyH_ready (rs := [3]) (by kernel_rfl) (by simp) ?_
        refine AllReadyH.cons (o := { dst := some 15, op := Go.Op.call { callee := Go.Callee.value (Go.Operand.func 56), args := #[Go.Operand.tmp 14], argTypes := #[24] }, type := 24, pos := "wide.go:48", after := #[{ on := 2, ground := Go.Ground.data }, { on := 1, ground := Go.Ground.chain }], guard := none }) rfl (fun K hK => ?_) AllReadyH.nil
        · go_simp
          refine (size_x b hb _).mono ?_
          rintro e W48 ⟨rfl, hBl⟩
          refine hK.out _ _ (sm_below hHeld hBl) (fun hHeld2 => ?_)
          clear hK K hHeld
          have hHeld := hHeld2
          clear hHeld2
          have h6 := h6.below hBl
          have h7 := h7.below hBl
          clear hBl
          try simp only [Act.put, List.setIfInBounds_toArray, List.set_cons_zero, List.set_cons_succ]
          refine wpAnyH_ready (rs := [4]) (by kernel_rfl) (by simp) ?_
          refine AllReadyH.cons (o := { dst := some 16, op := Go.Op.call { callee := Go.Callee.value (Go.Operand.func 55), args := #[Go.Operand.tmp 13, Go.Operand.tmp 15], argTypes := #[24, 24] }, type := 58, pos := "wide.go:48", after := #[{ on := 1, ground := Go.Ground.data }, { on := 3, ground := Go.Ground.data }, { on := 3, ground := Go.Ground.chain }], guard := none }) rfl (fun K hK => ?_) AllReadyH.nil
          · go_simp
            refine (hprod _).mono ?_
            rintro e W49 ⟨rfl, hBl⟩
            refine hK.out _ _ (sm_below hHeld hBl) (fun hHeld2 => ?_)
            clear hK K hHeld
            have hHeld := hHeld2
            clear hHeld2
            have h6 := h6.below hBl
            have h7 := h7.below hBl
            clear hBl
            try simp only [Act.put, List.setIfInBounds_toArray, List.set_cons_zero, List.set_cons_succ]
            refine wpAnyH_take (i := 5) (oi := { dst := some 11, op := Go.Op.move (Go.Operand.tmp 16), type := 58, pos := "wide.go:48", after := #[{ on := 4, ground := Go.Ground.data }], guard := none }) (v := ?_) rfl (by kernel_rfl) (by kernel_rfl) (by kernel_rfl) (fun _ _ _ h => h) (Or.inl ⟨by rfl, ?_⟩) (by assumption) ?_
            rotate_left
            · intro w hSw
              go_simp
              try with_reducible rfl
            try simp only [Act.put, List.setIfInBounds_toArray, List.set_cons_zero, List.set_cons_succ]
            refine wpAnyH_take (i := 6) (oi := { dst := some 17, op := Go.Op.extract (Go.Operand.tmp 11) 0, type := 24, pos := "wide.go:48", after := #[{ on := 5, ground := Go.Ground.data }], guard := none }) (v := ?_) rfl (by kernel_rfl) (by kernel_rfl) (by kernel_rfl) (fun _ _ _ h => h) (Or.inl ⟨by rfl, ?_⟩) (by assumption) ?_
            rotate_left
            · intro w hSw
              go_simp
              try with_reducible rfl
            try simp only [Act.put, List.setIfInBounds_toArray, List.set_cons_zero, List.set_cons_succ]
            refine wpAnyH_take (i := 7) (oi := { dst := some 18, op := Go.Op.extract (Go.Operand.tmp 11) 1, type := 24, pos := "wide.go:48", after := #[{ on := 5, ground := Go.Ground.data }, { on := 10, ground := Go.Ground.gcOnly Go.Departure.lateStores }], guard := none }) (v := ?_) rfl (by kernel_rfl) (by kernel_rfl) (by kernel_rfl) (fun _ _ _ h => h) (Or.inl ⟨by rfl, ?_⟩) (by assumption) ?_
            rotate_left
            · intro w hSw
              go_simp
              try with_reducible rfl
            try simp only [Act.put, List.setIfInBounds_toArray, List.set_cons_zero, List.set_cons_succ]
            exact tail _ _ _ hHeld h6 h7 hne g6 g7
  · go_simp
    refine hK.out _ _ (sm_alloc hHeld _) (fun hHeld2 => ?_)
    have g7 := hHeld.2.2.1.lt
    obtain ⟨W50, B7, hWn, hBn, h7⟩ : ∃ Wn B, W0.alloc (.cells #[.int .u64 0, .int .u64 0, .int .u64 0, .int .u64 0] 24) = Wn ∧ W0.heap.size = B ∧ At4 Wn B Zr := ⟨_, _, rfl, rfl, At4.new W0 Zr⟩
    rw [hBn] at g7
    rw [hWn] at hHeld2 ⊢
    rw [hBn]
    clear hK K hHeld hWn hBn
    have hHeld := hHeld2
    clear hHeld2
    try simp only [Act.put, List.setIfInBounds_toArray, List.set_cons_zero, List.set_cons_succ]
    refine wpAnyH_ready (rs := [1, 8]) (by kernel_rfl) (by simp) ?_
    refine AllReadyH.cons (o := { dst := some 13, op := Go.Op.call { callee := Go.Callee.value (Go.Operand.func 56), args := #[Go.Operand.tmp 12], argTypes := #[24] }, type := 24, pos := "wide.go:48", after := #[{ on := 0, ground := Go.Ground.data }], guard := none }) rfl (fun K hK => ?_) (AllReadyH.cons (o := { dst := some 6, op := Go.Op.alloc 24, type := 0, pos := "wide.go:48", after := #[], guard := none }) rfl (fun K hK => ?_) AllReadyH.nil)
    · go_simp
      refine (size_x a ha _).mono ?_
      rintro e W51 ⟨rfl, hBl⟩
      refine hK.out _ _ (sm_below hHeld hBl) (fun hHeld2 => ?_)
      clear hK K hHeld
      have hHeld := hHeld2
      clear hHeld2
      have h7 := h7.below hBl
      clear hBl
      try simp only [Act.put, List.setIfInBounds_toArray, List.set_cons_zero, List.set_cons_succ]
      refine wpAnyH_ready (rs := [3, 8]) (by kernel_rfl) (by simp) ?_
      refine AllReadyH.cons (o := { dst := some 15, op := Go.Op.call { callee := Go.Callee.value (Go.Operand.func 56), args := #[Go.Operand.tmp 14], argTypes := #[24] }, type := 24, pos := "wide.go:48", after := #[{ on := 2, ground := Go.Ground.data }, { on := 1, ground := Go.Ground.chain }], guard := none }) rfl (fun K hK => ?_) (AllReadyH.cons (o := { dst := some 6, op := Go.Op.alloc 24, type := 0, pos := "wide.go:48", after := #[], guard := none }) rfl (fun K hK => ?_) AllReadyH.nil)
      · go_simp
        refine (size_x b hb _).mono ?_
        rintro e W52 ⟨rfl, hBl⟩
        refine hK.out _ _ (sm_below hHeld hBl) (fun hHeld2 => ?_)
        clear hK K hHeld
        have hHeld := hHeld2
        clear hHeld2
        have h7 := h7.below hBl
        clear hBl
        try simp only [Act.put, List.setIfInBounds_toArray, List.set_cons_zero, List.set_cons_succ]
        refine wpAnyH_ready (rs := [4, 8]) (by kernel_rfl) (by simp) ?_
        refine AllReadyH.cons (o := { dst := some 16, op := Go.Op.call { callee := Go.Callee.value (Go.Operand.func 55), args := #[Go.Operand.tmp 13, Go.Operand.tmp 15], argTypes := #[24, 24] }, type := 58, pos := "wide.go:48", after := #[{ on := 1, ground := Go.Ground.data }, { on := 3, ground := Go.Ground.data }, { on := 3, ground := Go.Ground.chain }], guard := none }) rfl (fun K hK => ?_) (AllReadyH.cons (o := { dst := some 6, op := Go.Op.alloc 24, type := 0, pos := "wide.go:48", after := #[], guard := none }) rfl (fun K hK => ?_) AllReadyH.nil)
        · go_simp
          refine (hprod _).mono ?_
          rintro e W53 ⟨rfl, hBl⟩
          refine hK.out _ _ (sm_below hHeld hBl) (fun hHeld2 => ?_)
          clear hK K hHeld
          have hHeld := hHeld2
          clear hHeld2
          have h7 := h7.below hBl
          clear hBl
          try simp only [Act.put, List.setIfInBounds_toArray, List.set_cons_zero, List.set_cons_succ]
          refine wpAnyH_take (i := 5) (oi := { dst := some 11, op := Go.Op.move (Go.Operand.tmp 16), type := 58, pos := "wide.go:48", after := #[{ on := 4, ground := Go.Ground.data }], guard := none }) (v := ?_) rfl (by kernel_rfl) (by kernel_rfl) (by kernel_rfl) (fun _ _ _ h => h) (Or.inl ⟨by rfl, ?_⟩) (by assumption) ?_
          rotate_left
          · intro w hSw
            go_simp
            try with_reducible rfl
          try simp only [Act.put, List.setIfInBounds_toArray, List.set_cons_zero, List.set_cons_succ]
          refine wpAnyH_take (i := 6) (oi := { dst := some 17, op := Go.Op.extract (Go.Operand.tmp 11) 0, type := 24, pos := "wide.go:48", after := #[{ on := 5, ground := Go.Ground.data }], guard := none }) (v := ?_) rfl (by kernel_rfl) (by kernel_rfl) (by kernel_rfl) (fun _ _ _ h => h) (Or.inl ⟨by rfl, ?_⟩) (by assumption) ?_
          rotate_left
          · intro w hSw
            go_simp
            try with_reducible rfl
          try simp only [Act.put, List.setIfInBounds_toArray, List.set_cons_zero, List.set_cons_succ]
          refine wpAnyH_take (i := 7) (oi := { dst := some 18, op := Go.Op.extract (Go.Operand.tmp 11) 1, type := 24, pos := "wide.go:48", after := #[{ on := 5, ground := Go.Ground.data }, { on := 10, ground := Go.Ground.gcOnly Go.Departure.lateStores }], guard := none }) (v := ?_) rfl (by kernel_rfl) (by kernel_rfl) (by kernel_rfl) (fun _ _ _ h => h) (Or.inl ⟨by rfl, ?_⟩) (by assumption) ?_
          rotate_left
          · intro w hSw
            go_simp
            try with_reducible rfl
          try simp only [Act.put, List.setIfInBounds_toArray, List.set_cons_zero, List.set_cons_succ]
          refine wpAnyH_ready (rs := [8]) (by kernel_rfl) (by simp) ?_
          refine AllReadyH.cons (o := { dst := some 6, op := Go.Op.alloc 24, type := 0, pos := "wide.go:48", after := #[], guard := none }) rfl (fun K hK => ?_) AllReadyH.nil
          · go_simp
            refine hK.out _ _ (sm_alloc hHeld _) (fun hHeld2 => ?_)
            have g6 := hHeld.2.2.1.lt
            obtain ⟨W54, B6, hWn, hBn, h6⟩ : ∃ Wn B, W53.alloc (.cells #[.int .u64 0, .int .u64 0, .int .u64 0, .int .u64 0] 24) = Wn ∧ W53.heap.size = B ∧ At4 Wn B Zr := ⟨_, _, rfl, rfl, At4.new W53 Zr⟩
            have hne : B6 ≠ B7 := by have := h7.lt; omega
            have h7 : At4 W54 B7 Zr := hWn ▸ h7.alloc _
            rw [hBn] at g6
            rw [hWn] at hHeld2 ⊢
            rw [hBn]
            clear hK K hHeld hWn hBn
            have hHeld := hHeld2
            clear hHeld2
            try simp only [Act.put, List.setIfInBounds_toArray, List.set_cons_zero, List.set_cons_succ]
            exact tail _ _ _ hHeld h6 h7 hne g6 g7
        · go_simp
          refine hK.out _ _ (sm_alloc hHeld _) (fun hHeld2 => ?_)
          have g6 := hHeld.2.2.1.lt
          obtain ⟨W55, B6, hWn, hBn, h6⟩ : ∃ Wn B, W52.alloc (.cells #[.int .u64 0, .int .u64 0, .int .u64 0, .int .u64 0] 24) = Wn ∧ W52.heap.size = B ∧ At4 Wn B Zr := ⟨_, _, rfl, rfl, At4.new W52 Zr⟩
          have hne : B6 ≠ B7 := by have := h7.lt; omega
          have h7 : At4 W55 B7 Zr := hWn ▸ h7.alloc _
          rw [hBn] at g6
          rw [hWn] at hHeld2 ⊢
          rw [hBn]
          clear hK K hHeld hWn hBn
          have hHeld := hHeld2
          clear hHeld2
          try simp only [Act.put, List.setIfInBounds_toArray, List.set_cons_zero, List.set_cons_succ]
          refine wpAnyH_ready (rs := [4]) (by kernel_rfl) (by simp) ?_
          refine AllReadyH.cons (o := { dst := some 16, op := Go.Op.call { callee := Go.Callee.value (Go.Operand.func 55), args := #[Go.Operand.tmp 13, Go.Operand.tmp 15], argTypes := #[24, 24] }, type := 58, pos := "wide.go:48", after := #[{ on := 1, ground := Go.Ground.data }, { on := 3, ground := Go.Ground.data }, { on := 3, ground := Go.Ground.chain }], guard := none }) rfl (fun K hK => ?_) AllReadyH.nil
          · go_simp
            refine (hprod _).mono ?_
            rintro e W56 ⟨rfl, hBl⟩
            refine hK.out _ _ (sm_below hHeld hBl) (fun hHeld2 => ?_)
            clear hK K hHeld
            have hHeld := hHeld2
            clear hHeld2
            have h6 := h6.below hBl
            have h7 := h7.below hBl
            clear hBl
            try simp only [Act.put, List.setIfInBounds_toArray, List.set_cons_zero, List.set_cons_succ]
            refine wpAnyH_take (i := 5) (oi := { dst := some 11, op := Go.Op.move (Go.Operand.tmp 16), type := 58, pos := "wide.go:48", after := #[{ on := 4, ground := Go.Ground.data }], guard := none }) (v := ?_) rfl (by kernel_rfl) (by kernel_rfl) (by kernel_rfl) (fun _ _ _ h => h) (Or.inl ⟨by rfl, ?_⟩) (by assumption) ?_
            rotate_left
            · intro w hSw
              go_simp
              try with_reducible rfl
            try simp only [Act.put, List.setIfInBounds_toArray, List.set_cons_zero, List.set_cons_succ]
            refine wpAnyH_take (i := 6) (oi := { dst := some 17, op := Go.Op.extract (Go.Operand.tmp 11) 0, type := 24, pos := "wide.go:48", after := #[{ on := 5, ground := Go.Ground.data }], guard := none }) (v := ?_) rfl (by kernel_rfl) (by kernel_rfl) (by kernel_rfl) (fun _ _ _ h => h) (Or.inl ⟨by rfl, ?_⟩) (by assumption) ?_
            rotate_left
            · intro w hSw
              go_simp
              try with_reducible rfl
            try simp only [Act.put, List.setIfInBounds_toArray, List.set_cons_zero, List.set_cons_succ]
            refine wpAnyH_take (i := 7) (oi := { dst := some 18, op := Go.Op.extract (Go.Operand.tmp 11) 1, type := 24, pos := "wide.go:48", after := #[{ on := 5, ground := Go.Ground.data }, { on := 10, ground := Go.Ground.gcOnly Go.Departure.lateStores }], guard := none }) (v := ?_) rfl (by kernel_rfl) (by kernel_rfl) (by kernel_rfl) (fun _ _ _ h => h) (Or.inl ⟨by rfl, ?_⟩) (by assumption) ?_
            rotate_left
            · intro w hSw
              go_simp
              try with_reducible rfl
            try simp only [Act.put, List.setIfInBounds_toArray, List.set_cons_zero, List.set_cons_succ]
            exact tail _ _ _ hHeld h6 h7 hne g6 g7
      · go_simp
        refine hK.out _ _ (sm_alloc hHeld _) (fun hHeld2 => ?_)
        have g6 := hHeld.2.2.1.lt
        obtain ⟨W57, B6, hWn, hBn, h6⟩ : ∃ Wn B, W51.alloc (.cells #[.int .u64 0, .int .u64 0, .int .u64 0, .int .u64 0] 24) = Wn ∧ W51.heap.size = B ∧ At4 Wn B Zr := ⟨_, _, rfl, rfl, At4.new W51 Zr⟩
        have hne : B6 ≠ B7 := by have := h7.lt; omega
        have h7 : At4 W57 B7 Zr := hWn ▸ h7.alloc _
        rw [hBn] at g6
        rw [hWn] at hHeld2 ⊢
        rw [hBn]
        clear hK K hHeld hWn hBn
        have hHeld := hHeld2
        clear hHeld2
        try simp only [Act.put, List.setIfInBounds_toArray, List.set_cons_zero, List.set_cons_succ]
        refine wpAnyH_ready (rs := [3]) (by kernel_rfl) (by simp) ?_
        refine AllReadyH.cons (o := { dst := some 15, op := Go.Op.call { callee := Go.Callee.value (Go.Operand.func 56), args := #[Go.Operand.tmp 14], argTypes := #[24] }, type := 24, pos := "wide.go:48", after := #[{ on := 2, ground := Go.Ground.data }, { on := 1, ground := Go.Ground.chain }], guard := none }) rfl (fun K hK => ?_) AllReadyH.nil
        · go_simp
          refine (size_x b hb _).mono ?_
          rintro e W58 ⟨rfl, hBl⟩
          refine hK.out _ _ (sm_below hHeld hBl) (fun hHeld2 => ?_)
          clear hK K hHeld
          have hHeld := hHeld2
          clear hHeld2
          have h6 := h6.below hBl
          have h7 := h7.below hBl
          clear hBl
          try simp only [Act.put, List.setIfInBounds_toArray, List.set_cons_zero, List.set_cons_succ]
          refine wpAnyH_ready (rs := [4]) (by kernel_rfl) (by simp) ?_
          refine AllReadyH.cons (o := { dst := some 16, op := Go.Op.call { callee := Go.Callee.value (Go.Operand.func 55), args := #[Go.Operand.tmp 13, Go.Operand.tmp 15], argTypes := #[24, 24] }, type := 58, pos := "wide.go:48", after := #[{ on := 1, ground := Go.Ground.data }, { on := 3, ground := Go.Ground.data }, { on := 3, ground := Go.Ground.chain }], guard := none }) rfl (fun K hK => ?_) AllReadyH.nil
          · go_simp
            refine (hprod _).mono ?_
            rintro e W59 ⟨rfl, hBl⟩
            refine hK.out _ _ (sm_below hHeld hBl) (fun hHeld2 => ?_)
            clear hK K hHeld
            have hHeld := hHeld2
            clear hHeld2
            have h6 := h6.below hBl
            have h7 := h7.below hBl
            clear hBl
            try simp only [Act.put, List.setIfInBounds_toArray, List.set_cons_zero, List.set_cons_succ]
            refine wpAnyH_take (i := 5) (oi := { dst := some 11, op := Go.Op.move (Go.Operand.tmp 16), type := 58, pos := "wide.go:48", after := #[{ on := 4, ground := Go.Ground.data }], guard := none }) (v := ?_) rfl (by kernel_rfl) (by kernel_rfl) (by kernel_rfl) (fun _ _ _ h => h) (Or.inl ⟨by rfl, ?_⟩) (by assumption) ?_
            rotate_left
            · intro w hSw
              go_simp
              try with_reducible rfl
            try simp only [Act.put, List.setIfInBounds_toArray, List.set_cons_zero, List.set_cons_succ]
            refine wpAnyH_take (i := 6) (oi := { dst := some 17, op := Go.Op.extract (Go.Operand.tmp 11) 0, type := 24, pos := "wide.go:48", after := #[{ on := 5, ground := Go.Ground.data }], guard := none }) (v := ?_) rfl (by kernel_rfl) (by kernel_rfl) (by kernel_rfl) (fun _ _ _ h => h) (Or.inl ⟨by rfl, ?_⟩) (by assumption) ?_
            rotate_left
            · intro w hSw
              go_simp
              try with_reducible rfl
            try simp only [Act.put, List.setIfInBounds_toArray, List.set_cons_zero, List.set_cons_succ]
            refine wpAnyH_take (i := 7) (oi := { dst := some 18, op := Go.Op.extract (Go.Operand.tmp 11) 1, type := 24, pos := "wide.go:48", after := #[{ on := 5, ground := Go.Ground.data }, { on := 10, ground := Go.Ground.gcOnly Go.Departure.lateStores }], guard := none }) (v := ?_) rfl (by kernel_rfl) (by kernel_rfl) (by kernel_rfl) (fun _ _ _ h => h) (Or.inl ⟨by rfl, ?_⟩) (by assumption) ?_
            rotate_left
            · intro w hSw
              go_simp
              try with_reducible rfl
            try simp only [Act.put, List.setIfInBounds_toArray, List.set_cons_zero, List.set_cons_succ]
            exact tail _ _ _ hHeld h6 h7 hne g6 g7
    · go_simp
      refine hK.out _ _ (sm_alloc hHeld _) (fun hHeld2 => ?_)
      have g6 := hHeld.2.2.1.lt
      obtain ⟨W60, B6, hWn, hBn, h6⟩ : ∃ Wn B, W50.alloc (.cells #[.int .u64 0, .int .u64 0, .int .u64 0, .int .u64 0] 24) = Wn ∧ W50.heap.size = B ∧ At4 Wn B Zr := ⟨_, _, rfl, rfl, At4.new W50 Zr⟩
      have hne : B6 ≠ B7 := by have := h7.lt; omega
      have h7 : At4 W60 B7 Zr := hWn ▸ h7.alloc _
      rw [hBn] at g6
      rw [hWn] at hHeld2 ⊢
      rw [hBn]
      clear hK K hHeld hWn hBn
      have hHeld := hHeld2
      clear hHeld2
      try simp only [Act.put, List.setIfInBounds_toArray, List.set_cons_zero, List.set_cons_succ]
      refine wpAnyH_ready (rs := [1]) (by kernel_rfl) (by simp) ?_
      refine AllReadyH.cons (o := { dst := some 13, op := Go.Op.call { callee := Go.Callee.value (Go.Operand.func 56), args := #[Go.Operand.tmp 12], argTypes := #[24] }, type := 24, pos := "wide.go:48", after := #[{ on := 0, ground := Go.Ground.data }], guard := none }) rfl (fun K hK => ?_) AllReadyH.nil
      · go_simp
        refine (size_x a ha _).mono ?_
        rintro e W61 ⟨rfl, hBl⟩
        refine hK.out _ _ (sm_below hHeld hBl) (fun hHeld2 => ?_)
        clear hK K hHeld
        have hHeld := hHeld2
        clear hHeld2
        have h6 := h6.below hBl
        have h7 := h7.below hBl
        clear hBl
        try simp only [Act.put, List.setIfInBounds_toArray, List.set_cons_zero, List.set_cons_succ]
        refine wpAnyH_ready (rs := [3]) (by kernel_rfl) (by simp) ?_
        refine AllReadyH.cons (o := { dst := some 15, op := Go.Op.call { callee := Go.Callee.value (Go.Operand.func 56), args := #[Go.Operand.tmp 14], argTypes := #[24] }, type := 24, pos := "wide.go:48", after := #[{ on := 2, ground := Go.Ground.data }, { on := 1, ground := Go.Ground.chain }], guard := none }) rfl (fun K hK => ?_) AllReadyH.nil
        · go_simp
          refine (size_x b hb _).mono ?_
          rintro e W62 ⟨rfl, hBl⟩
          refine hK.out _ _ (sm_below hHeld hBl) (fun hHeld2 => ?_)
          clear hK K hHeld
          have hHeld := hHeld2
          clear hHeld2
          have h6 := h6.below hBl
          have h7 := h7.below hBl
          clear hBl
          try simp only [Act.put, List.setIfInBounds_toArray, List.set_cons_zero, List.set_cons_succ]
          refine wpAnyH_ready (rs := [4]) (by kernel_rfl) (by simp) ?_
          refine AllReadyH.cons (o := { dst := some 16, op := Go.Op.call { callee := Go.Callee.value (Go.Operand.func 55), args := #[Go.Operand.tmp 13, Go.Operand.tmp 15], argTypes := #[24, 24] }, type := 58, pos := "wide.go:48", after := #[{ on := 1, ground := Go.Ground.data }, { on := 3, ground := Go.Ground.data }, { on := 3, ground := Go.Ground.chain }], guard := none }) rfl (fun K hK => ?_) AllReadyH.nil
          · go_simp
            refine (hprod _).mono ?_
            rintro e W63 ⟨rfl, hBl⟩
            refine hK.out _ _ (sm_below hHeld hBl) (fun hHeld2 => ?_)
            clear hK K hHeld
            have hHeld := hHeld2
            clear hHeld2
            have h6 := h6.below hBl
            have h7 := h7.below hBl
            clear hBl
            try simp only [Act.put, List.setIfInBounds_toArray, List.set_cons_zero, List.set_cons_succ]
            refine wpAnyH_take (i := 5) (oi := { dst := some 11, op := Go.Op.move (Go.Operand.tmp 16), type := 58, pos := "wide.go:48", after := #[{ on := 4, ground := Go.Ground.data }], guard := none }) (v := ?_) rfl (by kernel_rfl) (by kernel_rfl) (by kernel_rfl) (fun _ _ _ h => h) (Or.inl ⟨by rfl, ?_⟩) (by assumption) ?_
            rotate_left
            · intro w hSw
              go_simp
              try with_reducible rfl
            try simp only [Act.put, List.setIfInBounds_toArray, List.set_cons_zero, List.set_cons_succ]
            refine wpAnyH_take (i := 6) (oi := { dst := some 17, op := Go.Op.extract (Go.Operand.tmp 11) 0, type := 24, pos := "wide.go:48", after := #[{ on := 5, ground := Go.Ground.data }], guard := none }) (v := ?_) rfl (by kernel_rfl) (by kernel_rfl) (by kernel_rfl) (fun _ _ _ h => h) (Or.inl ⟨by rfl, ?_⟩) (by assumption) ?_
            rotate_left
            · intro w hSw
              go_simp
              try with_reducible rfl
            try simp only [Act.put, List.setIfInBounds_toArray, List.set_cons_zero, List.set_cons_succ]
            refine wpAnyH_take (i := 7) (oi := { dst := some 18, op := Go.Op.extract (Go.Operand.tmp 11) 1, type := 24, pos := "wide.go:48", after := #[{ on := 5, ground := Go.Ground.data }, { on := 10, ground := Go.Ground.gcOnly Go.Departure.lateStores }], guard := none }) (v := ?_) rfl (by kernel_rfl) (by kernel_rfl) (by kernel_rfl) (fun _ _ _ h => h) (Or.inl ⟨by rfl, ?_⟩) (by assumption) ?_
            rotate_left
            · intro w hSw
              go_simp
              try with_reducible rfl
            try simp only [Act.put, List.setIfInBounds_toArray, List.set_cons_zero, List.set_cons_succ]
            exact tail _ _ _ hHeld h6 h7 hne g6 g7

end Go.Proofs.Ytecgclkjglkkbaa
