/- wakes answers true. -/
import Derived.Test.YtecgclkjglkkbaaLW
namespace Go.Proofs.Ytecgclkjglkkbaa
open Go Go.RowKit Go.Shelf
set_option linter.unusedSimpArgs false
set_option linter.unusedVariables false

def W127 : Nat → Nat := fun i => if i = 1 then 9223372036854775808 else 0
def Wmo : Nat → Nat := fun i => if i = 3 then 9223372036854775807 else 18446744073709551615
def Wl1 : Nat → Nat := fun i => if i = 3 then 4611686018427387904 else 0
def Wl2 : Nat → Nat := fun i => if i = 3 then 9223372036854775808 else 0
theorem w127_w : Wds W127 := fun i => by unfold W127; split <;> omega
theorem wmo_w : Wds Wmo := fun i => by unfold Wmo; split <;> omega

set_option maxRecDepth 100000 in
set_option maxHeartbeats 4000000 in
theorem wk_r3 (w : World) (B1 B2 : Nat) (r1 r2 p1 : Nat → Nat) (W : World) (hL : Live w [(B2, Wmo), (B1, r1)] W)
    (C2 : ∀ W, Calls Try.prog 22 #[.int .i64 1] W fun e w' => e = .returned (.agg #[.int .u64 (p1 0), .int .u64 (p1 1), .int .u64 (p1 2), .int .u64 (p1 3)]) ∧ Below W.heap.size W w')
    (C3 : ∀ W, Calls Try.prog 10 #[.agg #[.int .u64 18446744073709551615, .int .u64 18446744073709551615, .int .u64 18446744073709551615, .int .u64 9223372036854775807], .agg #[.int .u64 (p1 0), .int .u64 (p1 1), .int .u64 (p1 2), .int .u64 (p1 3)]] W fun e w' => e = .returned (.tuple #[.agg #[.int .u64 (r2 0), .int .u64 (r2 1), .int .u64 (r2 2), .int .u64 (r2 3)], .bool true]) ∧ Below W.heap.size W w') :
    (Code.region 3 #[{ dst := some 22, op := Go.Op.load 24 (Go.Operand.tmp 3), type := 24, pos := "law.go:14", after := #[], guard := none }, { dst := some 23, op := Go.Op.call { callee := Go.Callee.value (Go.Operand.func 22), args := #[Go.Operand.const (Go.Value.int Go.IntKind.i64 1)], argTypes := #[3] }, type := 24, pos := "law.go:14", after := #[], guard := none }, { dst := some 24, op := Go.Op.call { callee := Go.Callee.value (Go.Operand.func 10), args := #[Go.Operand.tmp 22, Go.Operand.tmp 23], argTypes := #[24, 24] }, type := 27, pos := "law.go:14", after := #[{ on := 0, ground := Go.Ground.data }, { on := 1, ground := Go.Ground.data }, { on := 1, ground := Go.Ground.chain }], guard := none }, { dst := some 21, op := Go.Op.move (Go.Operand.tmp 24), type := 27, pos := "law.go:14", after := #[{ on := 2, ground := Go.Ground.data }], guard := none }, { dst := some 25, op := Go.Op.extract (Go.Operand.tmp 21) 0, type := 24, pos := "law.go:14", after := #[{ on := 3, ground := Go.Ground.data }], guard := none }, { dst := some 26, op := Go.Op.extract (Go.Operand.tmp 21) 1, type := 4, pos := "law.go:14", after := #[{ on := 3, ground := Go.Ground.data }, { on := 7, ground := Go.Ground.gcOnly Go.Departure.lateStores }], guard := none }, { dst := some 4, op := Go.Op.alloc 24, type := 0, pos := "law.go:14", after := #[], guard := none }, { dst := none, op := Go.Op.store 24 (Go.Operand.tmp 4) (Go.Operand.tmp 25), type := 0, pos := "law.go:14", after := #[{ on := 6, ground := Go.Ground.data }, { on := 4, ground := Go.Ground.data }, { on := 2, ground := Go.Ground.chain }, { on := 0, ground := Go.Ground.phase }, { on := 1, ground := Go.Ground.phase }, { on := 2, ground := Go.Ground.phase }, { on := 3, ground := Go.Ground.phase }, { on := 4, ground := Go.Ground.phase }, { on := 5, ground := Go.Ground.textOnly Go.Departure.lateStores }, { on := 6, ground := Go.Ground.phase }], guard := none }, { dst := some 5, op := Go.Op.assign (Go.Operand.tmp 26), type := 4, pos := "law.go:14", after := #[{ on := 5, ground := Go.Ground.data }, { on := 7, ground := Go.Ground.chain }, { on := 0, ground := Go.Ground.phase }, { on := 1, ground := Go.Ground.phase }, { on := 2, ground := Go.Ground.phase }, { on := 3, ground := Go.Ground.phase }, { on := 4, ground := Go.Ground.phase }, { on := 5, ground := Go.Ground.phase }, { on := 6, ground := Go.Ground.phase }, { on := 7, ground := Go.Ground.phase }], guard := none }] true).wp Try.prog (fun e a' w' => e = Exit.normal ∧ ∃ B4, a' = { tmps := #[.bool false, .pointer (some ⟨B1, 0, none⟩), .bool false, .pointer (some ⟨B2, 0, none⟩), .pointer (some ⟨B4, 0, none⟩), .bool true, undef, undef, undef, undef, undef, undef, undef, undef, .tuple #[.agg #[.int .u64 (r1 0), .int .u64 (r1 1), .int .u64 (r1 2), .int .u64 (r1 3)], .bool false], .agg #[.int .u64 0, .int .u64 9223372036854775808, .int .u64 0, .int .u64 0], .agg #[.int .u64 0, .int .u64 9223372036854775808, .int .u64 0, .int .u64 0], .tuple #[.agg #[.int .u64 (r1 0), .int .u64 (r1 1), .int .u64 (r1 2), .int .u64 (r1 3)], .bool false], .agg #[.int .u64 (r1 0), .int .u64 (r1 1), .int .u64 (r1 2), .int .u64 (r1 3)], .bool false, .agg #[.int .u64 18446744073709551615, .int .u64 18446744073709551615, .int .u64 18446744073709551615, .int .u64 9223372036854775807], .tuple #[.agg #[.int .u64 (r2 0), .int .u64 (r2 1), .int .u64 (r2 2), .int .u64 (r2 3)], .bool true], .agg #[.int .u64 18446744073709551615, .int .u64 18446744073709551615, .int .u64 18446744073709551615, .int .u64 9223372036854775807], .agg #[.int .u64 (p1 0), .int .u64 (p1 1), .int .u64 (p1 2), .int .u64 (p1 3)], .tuple #[.agg #[.int .u64 (r2 0), .int .u64 (r2 1), .int .u64 (r2 2), .int .u64 (r2 3)], .bool true], .agg #[.int .u64 (r2 0), .int .u64 (r2 1), .int .u64 (r2 2), .int .u64 (r2 3)], .bool true, undef, undef, undef, undef, undef, undef, undef, undef, undef, undef, undef, undef, undef, undef, undef, undef, undef, undef, undef, undef, undef, undef, undef, undef, undef, undef, undef, undef, undef, undef, undef, undef, undef, undef, undef, undef, undef, undef, undef, undef, undef, undef, undef, undef, undef, undef, undef, undef, undef, undef, undef, undef, undef, undef, undef, undef, undef, undef, undef, undef, undef, undef, undef, undef, undef, undef, undef, undef, undef, undef, undef, undef, undef, undef, undef, undef], defers := [] } ∧ Live w [(B4, r2), (B2, Wmo), (B1, r1)] w') { tmps := #[.bool false, .pointer (some ⟨B1, 0, none⟩), .bool false, .pointer (some ⟨B2, 0, none⟩), undef, undef, undef, undef, undef, undef, undef, undef, undef, undef, .tuple #[.agg #[.int .u64 (r1 0), .int .u64 (r1 1), .int .u64 (r1 2), .int .u64 (r1 3)], .bool false], .agg #[.int .u64 0, .int .u64 9223372036854775808, .int .u64 0, .int .u64 0], .agg #[.int .u64 0, .int .u64 9223372036854775808, .int .u64 0, .int .u64 0], .tuple #[.agg #[.int .u64 (r1 0), .int .u64 (r1 1), .int .u64 (r1 2), .int .u64 (r1 3)], .bool false], .agg #[.int .u64 (r1 0), .int .u64 (r1 1), .int .u64 (r1 2), .int .u64 (r1 3)], .bool false, .agg #[.int .u64 18446744073709551615, .int .u64 18446744073709551615, .int .u64 18446744073709551615, .int .u64 9223372036854775807], undef, undef, undef, undef, undef, undef, undef, undef, undef, undef, undef, undef, undef, undef, undef, undef, undef, undef, undef, undef, undef, undef, undef, undef, undef, undef, undef, undef, undef, undef, undef, undef, undef, undef, undef, undef, undef, undef, undef, undef, undef, undef, undef, undef, undef, undef, undef, undef, undef, undef, undef, undef, undef, undef, undef, undef, undef, undef, undef, undef, undef, undef, undef, undef, undef, undef, undef, undef, undef, undef, undef, undef, undef, undef, undef, undef, undef, undef, undef, undef, undef, undef], defers := [] } W := by
  have tail : ∀ (W' : World) (B4 : Nat), Live w [(B2, Wmo), (B1, r1)] W' → At4 W' B4 Zr → (∀ p ∈ ([(B2, Wmo), (B1, r1)] : List (Nat × (Nat → Nat))), p.1 ≠ B4) → w.heap.size ≤ B4 →
      wpAnyH Try.prog .any #[{ dst := some 22, op := Go.Op.load 24 (Go.Operand.tmp 3), type := 24, pos := "law.go:14", after := #[], guard := none }, { dst := some 23, op := Go.Op.call { callee := Go.Callee.value (Go.Operand.func 22), args := #[Go.Operand.const (Go.Value.int Go.IntKind.i64 1)], argTypes := #[3] }, type := 24, pos := "law.go:14", after := #[], guard := none }, { dst := some 24, op := Go.Op.call { callee := Go.Callee.value (Go.Operand.func 10), args := #[Go.Operand.tmp 22, Go.Operand.tmp 23], argTypes := #[24, 24] }, type := 27, pos := "law.go:14", after := #[{ on := 0, ground := Go.Ground.data }, { on := 1, ground := Go.Ground.data }, { on := 1, ground := Go.Ground.chain }], guard := none }, { dst := some 21, op := Go.Op.move (Go.Operand.tmp 24), type := 27, pos := "law.go:14", after := #[{ on := 2, ground := Go.Ground.data }], guard := none }, { dst := some 25, op := Go.Op.extract (Go.Operand.tmp 21) 0, type := 24, pos := "law.go:14", after := #[{ on := 3, ground := Go.Ground.data }], guard := none }, { dst := some 26, op := Go.Op.extract (Go.Operand.tmp 21) 1, type := 4, pos := "law.go:14", after := #[{ on := 3, ground := Go.Ground.data }, { on := 7, ground := Go.Ground.gcOnly Go.Departure.lateStores }], guard := none }, { dst := some 4, op := Go.Op.alloc 24, type := 0, pos := "law.go:14", after := #[], guard := none }, { dst := none, op := Go.Op.store 24 (Go.Operand.tmp 4) (Go.Operand.tmp 25), type := 0, pos := "law.go:14", after := #[{ on := 6, ground := Go.Ground.data }, { on := 4, ground := Go.Ground.data }, { on := 2, ground := Go.Ground.chain }, { on := 0, ground := Go.Ground.phase }, { on := 1, ground := Go.Ground.phase }, { on := 2, ground := Go.Ground.phase }, { on := 3, ground := Go.Ground.phase }, { on := 4, ground := Go.Ground.phase }, { on := 5, ground := Go.Ground.textOnly Go.Departure.lateStores }, { on := 6, ground := Go.Ground.phase }], guard := none }, { dst := some 5, op := Go.Op.assign (Go.Operand.tmp 26), type := 4, pos := "law.go:14", after := #[{ on := 5, ground := Go.Ground.data }, { on := 7, ground := Go.Ground.chain }, { on := 0, ground := Go.Ground.phase }, { on := 1, ground := Go.Ground.phase }, { on := 2, ground := Go.Ground.phase }, { on := 3, ground := Go.Ground.phase }, { on := 4, ground := Go.Ground.phase }, { on := 5, ground := Go.Ground.phase }, { on := 6, ground := Go.Ground.phase }, { on := 7, ground := Go.Ground.phase }], guard := none }] (NoPanic (fun e a' w' => e = Exit.normal ∧ ∃ B4, a' = { tmps := #[.bool false, .pointer (some ⟨B1, 0, none⟩), .bool false, .pointer (some ⟨B2, 0, none⟩), .pointer (some ⟨B4, 0, none⟩), .bool true, undef, undef, undef, undef, undef, undef, undef, undef, .tuple #[.agg #[.int .u64 (r1 0), .int .u64 (r1 1), .int .u64 (r1 2), .int .u64 (r1 3)], .bool false], .agg #[.int .u64 0, .int .u64 9223372036854775808, .int .u64 0, .int .u64 0], .agg #[.int .u64 0, .int .u64 9223372036854775808, .int .u64 0, .int .u64 0], .tuple #[.agg #[.int .u64 (r1 0), .int .u64 (r1 1), .int .u64 (r1 2), .int .u64 (r1 3)], .bool false], .agg #[.int .u64 (r1 0), .int .u64 (r1 1), .int .u64 (r1 2), .int .u64 (r1 3)], .bool false, .agg #[.int .u64 18446744073709551615, .int .u64 18446744073709551615, .int .u64 18446744073709551615, .int .u64 9223372036854775807], .tuple #[.agg #[.int .u64 (r2 0), .int .u64 (r2 1), .int .u64 (r2 2), .int .u64 (r2 3)], .bool true], .agg #[.int .u64 18446744073709551615, .int .u64 18446744073709551615, .int .u64 18446744073709551615, .int .u64 9223372036854775807], .agg #[.int .u64 (p1 0), .int .u64 (p1 1), .int .u64 (p1 2), .int .u64 (p1 3)], .tuple #[.agg #[.int .u64 (r2 0), .int .u64 (r2 1), .int .u64 (r2 2), .int .u64 (r2 3)], .bool true], .agg #[.int .u64 (r2 0), .int .u64 (r2 1), .int .u64 (r2 2), .int .u64 (r2 3)], .bool true, undef, undef, undef, undef, undef, undef, undef, undef, undef, undef, undef, undef, undef, undef, undef, undef, undef, undef, undef, undef, undef, undef, undef, undef, undef, undef, undef, undef, undef, undef, undef, undef, undef, undef, undef, undef, undef, undef, undef, undef, undef, undef, undef, undef, undef, undef, undef, undef, undef, undef, undef, undef, undef, undef, undef, undef, undef, undef, undef, undef, undef, undef, undef, undef, undef, undef, undef, undef, undef, undef, undef, undef, undef, undef, undef, undef], defers := [] } ∧ Live w [(B4, r2), (B2, Wmo), (B1, r1)] w')) (fun W' => Live w [(B2, Wmo), (B1, r1)] W') 2 #[true, true, true, true, true, true, true, false, false] { tmps := #[.bool false, .pointer (some ⟨B1, 0, none⟩), .bool false, .pointer (some ⟨B2, 0, none⟩), .pointer (some ⟨B4, 0, none⟩), undef, undef, undef, undef, undef, undef, undef, undef, undef, .tuple #[.agg #[.int .u64 (r1 0), .int .u64 (r1 1), .int .u64 (r1 2), .int .u64 (r1 3)], .bool false], .agg #[.int .u64 0, .int .u64 9223372036854775808, .int .u64 0, .int .u64 0], .agg #[.int .u64 0, .int .u64 9223372036854775808, .int .u64 0, .int .u64 0], .tuple #[.agg #[.int .u64 (r1 0), .int .u64 (r1 1), .int .u64 (r1 2), .int .u64 (r1 3)], .bool false], .agg #[.int .u64 (r1 0), .int .u64 (r1 1), .int .u64 (r1 2), .int .u64 (r1 3)], .bool false, .agg #[.int .u64 18446744073709551615, .int .u64 18446744073709551615, .int .u64 18446744073709551615, .int .u64 9223372036854775807], .tuple #[.agg #[.int .u64 (r2 0), .int .u64 (r2 1), .int .u64 (r2 2), .int .u64 (r2 3)], .bool true], .agg #[.int .u64 18446744073709551615, .int .u64 18446744073709551615, .int .u64 18446744073709551615, .int .u64 9223372036854775807], .agg #[.int .u64 (p1 0), .int .u64 (p1 1), .int .u64 (p1 2), .int .u64 (p1 3)], .tuple #[.agg #[.int .u64 (r2 0), .int .u64 (r2 1), .int .u64 (r2 2), .int .u64 (r2 3)], .bool true], .agg #[.int .u64 (r2 0), .int .u64 (r2 1), .int .u64 (r2 2), .int .u64 (r2 3)], .bool true, undef, undef, undef, undef, undef, undef, undef, undef, undef, undef, undef, undef, undef, undef, undef, undef, undef, undef, undef, undef, undef, undef, undef, undef, undef, undef, undef, undef, undef, undef, undef, undef, undef, undef, undef, undef, undef, undef, undef, undef, undef, undef, undef, undef, undef, undef, undef, undef, undef, undef, undef, undef, undef, undef, undef, undef, undef, undef, undef, undef, undef, undef, undef, undef, undef, undef, undef, undef, undef, undef, undef, undef, undef, undef, undef, undef], defers := [] } W' := by
    · intro W' B4 hHeld h4 gne gw
      refine wpAnyH_ready (rs := [7]) (by kernel_rfl) (by simp) ?_
      refine AllReadyH.cons (o := { dst := none, op := Go.Op.store 24 (Go.Operand.tmp 4) (Go.Operand.tmp 25), type := 0, pos := "law.go:14", after := #[{ on := 6, ground := Go.Ground.data }, { on := 4, ground := Go.Ground.data }, { on := 2, ground := Go.Ground.chain }, { on := 0, ground := Go.Ground.phase }, { on := 1, ground := Go.Ground.phase }, { on := 2, ground := Go.Ground.phase }, { on := 3, ground := Go.Ground.phase }, { on := 4, ground := Go.Ground.phase }, { on := 5, ground := Go.Ground.textOnly Go.Departure.lateStores }, { on := 6, ground := Go.Ground.phase }], guard := none }) rfl (fun K hK => ?_) AllReadyH.nil
      have hHeld0 := hHeld
      have k0 := h4.cell 0 (by omega)
      have k1 := h4.cell 1 (by omega)
      have k2 := h4.cell 2 (by omega)
      have k3 := h4.cell 3 (by omega)
      have f0 := h4.frozen 0
      have f1 := h4.frozen 1
      have f2 := h4.frozen 2
      have f3 := h4.frozen 3
      go_simp
      refine hK.out _ _ ?_ (fun hHeld2 => ?_)
      · exact live_other hHeld0 gne gw _ _ _ _
      clear hK K hHeld
      have hHeld := hHeld2
      clear hHeld2
      try simp only [Act.put, List.setIfInBounds_toArray, List.set_cons_zero, List.set_cons_succ]
      clear k0 k1 k2 k3 f0 f1 f2 f3 hHeld0
      refine wpAnyH_take (i := 8) (oi := { dst := some 5, op := Go.Op.assign (Go.Operand.tmp 26), type := 4, pos := "law.go:14", after := #[{ on := 5, ground := Go.Ground.data }, { on := 7, ground := Go.Ground.chain }, { on := 0, ground := Go.Ground.phase }, { on := 1, ground := Go.Ground.phase }, { on := 2, ground := Go.Ground.phase }, { on := 3, ground := Go.Ground.phase }, { on := 4, ground := Go.Ground.phase }, { on := 5, ground := Go.Ground.phase }, { on := 6, ground := Go.Ground.phase }, { on := 7, ground := Go.Ground.phase }], guard := none }) (v := ?_) rfl (by kernel_rfl) (by kernel_rfl) (by kernel_rfl) (fun _ _ _ h => h) (Or.inl ⟨by rfl, ?_⟩) (by assumption) ?_
      rotate_left
      · intro w hSw
        go_simp
        try with_reducible rfl
      try simp only [Act.put, List.setIfInBounds_toArray, List.set_cons_zero, List.set_cons_succ]
      refine wpAnyH_done (by kernel_rfl) ?_ _
      refine NoPanic.normal ?_
      exact ⟨rfl, B4, rfl, live_cons hHeld (h4.set4 r2)⟩
  refine wp_region_noPanic ?_
  refine wp_region_held_drew (S := fun W' => Live w [(B2, Wmo), (B1, r1)] W') (by kernel_rfl) (live_drew hL) (fun hHeld => ?_)
  obtain ⟨W0, hW0⟩ : ∃ W0, W.drew = W0 := ⟨_, rfl⟩
  rw [hW0] at hHeld ⊢
  clear hW0 hL
  refine wpAnyH_take (i := 0) (oi := { dst := some 22, op := Go.Op.load 24 (Go.Operand.tmp 3), type := 24, pos := "law.go:14", after := #[], guard := none }) (v := ?_) rfl (by kernel_rfl) (by kernel_rfl) (by kernel_rfl) (fun _ _ _ h => h) (Or.inl ⟨by rfl, ?_⟩) (by assumption) ?_
  rotate_left
  · intro w hSw
    have k0 : w.cell? ⟨B2, 0, none⟩ = some (.int .u64 18446744073709551615) := (live_get hSw B2 Wmo (by simp)).cell 0 (by omega)
    have k1 : w.cell? ⟨B2, 1, none⟩ = some (.int .u64 18446744073709551615) := (live_get hSw B2 Wmo (by simp)).cell 1 (by omega)
    have k2 : w.cell? ⟨B2, 2, none⟩ = some (.int .u64 18446744073709551615) := (live_get hSw B2 Wmo (by simp)).cell 2 (by omega)
    have k3 : w.cell? ⟨B2, 3, none⟩ = some (.int .u64 9223372036854775807) := (live_get hSw B2 Wmo (by simp)).cell 3 (by omega)
    go_simp
    try with_reducible rfl
  try simp only [Act.put, List.setIfInBounds_toArray, List.set_cons_zero, List.set_cons_succ]
  refine wpAnyH_ready (rs := [1, 6]) (by kernel_rfl) (by simp) ?_
  refine AllReadyH.cons (o := { dst := some 23, op := Go.Op.call { callee := Go.Callee.value (Go.Operand.func 22), args := #[Go.Operand.const (Go.Value.int Go.IntKind.i64 1)], argTypes := #[3] }, type := 24, pos := "law.go:14", after := #[], guard := none }) rfl (fun K hK => ?_) (AllReadyH.cons (o := { dst := some 4, op := Go.Op.alloc 24, type := 0, pos := "law.go:14", after := #[], guard := none }) rfl (fun K hK => ?_) AllReadyH.nil)
  · go_simp
    refine (C2 _).mono ?_
    rintro e V1 ⟨rfl, hBl⟩
    refine hK.out _ _ (live_below hHeld hBl) (fun hHeld2 => ?_)
    clear hK K hHeld
    have hHeld := hHeld2
    clear hHeld2
    clear hBl
    try simp only [Act.put, List.setIfInBounds_toArray, List.set_cons_zero, List.set_cons_succ]
    refine wpAnyH_ready (rs := [2, 6]) (by kernel_rfl) (by simp) ?_
    refine AllReadyH.cons (o := { dst := some 24, op := Go.Op.call { callee := Go.Callee.value (Go.Operand.func 10), args := #[Go.Operand.tmp 22, Go.Operand.tmp 23], argTypes := #[24, 24] }, type := 27, pos := "law.go:14", after := #[{ on := 0, ground := Go.Ground.data }, { on := 1, ground := Go.Ground.data }, { on := 1, ground := Go.Ground.chain }], guard := none }) rfl (fun K hK => ?_) (AllReadyH.cons (o := { dst := some 4, op := Go.Op.alloc 24, type := 0, pos := "law.go:14", after := #[], guard := none }) rfl (fun K hK => ?_) AllReadyH.nil)
    · go_simp
      refine (C3 _).mono ?_
      rintro e V2 ⟨rfl, hBl⟩
      refine hK.out _ _ (live_below hHeld hBl) (fun hHeld2 => ?_)
      clear hK K hHeld
      have hHeld := hHeld2
      clear hHeld2
      clear hBl
      try simp only [Act.put, List.setIfInBounds_toArray, List.set_cons_zero, List.set_cons_succ]
      refine wpAnyH_take (i := 3) (oi := { dst := some 21, op := Go.Op.move (Go.Operand.tmp 24), type := 27, pos := "law.go:14", after := #[{ on := 2, ground := Go.Ground.data }], guard := none }) (v := ?_) rfl (by kernel_rfl) (by kernel_rfl) (by kernel_rfl) (fun _ _ _ h => h) (Or.inl ⟨by rfl, ?_⟩) (by assumption) ?_
      rotate_left
      · intro w hSw
        go_simp
        try with_reducible rfl
      try simp only [Act.put, List.setIfInBounds_toArray, List.set_cons_zero, List.set_cons_succ]
      refine wpAnyH_take (i := 4) (oi := { dst := some 25, op := Go.Op.extract (Go.Operand.tmp 21) 0, type := 24, pos := "law.go:14", after := #[{ on := 3, ground := Go.Ground.data }], guard := none }) (v := ?_) rfl (by kernel_rfl) (by kernel_rfl) (by kernel_rfl) (fun _ _ _ h => h) (Or.inl ⟨by rfl, ?_⟩) (by assumption) ?_
      rotate_left
      · intro w hSw
        go_simp
        try with_reducible rfl
      try simp only [Act.put, List.setIfInBounds_toArray, List.set_cons_zero, List.set_cons_succ]
      refine wpAnyH_take (i := 5) (oi := { dst := some 26, op := Go.Op.extract (Go.Operand.tmp 21) 1, type := 4, pos := "law.go:14", after := #[{ on := 3, ground := Go.Ground.data }, { on := 7, ground := Go.Ground.gcOnly Go.Departure.lateStores }], guard := none }) (v := ?_) rfl (by kernel_rfl) (by kernel_rfl) (by kernel_rfl) (fun _ _ _ h => h) (Or.inl ⟨by rfl, ?_⟩) (by assumption) ?_
      rotate_left
      · intro w hSw
        go_simp
        try with_reducible rfl
      try simp only [Act.put, List.setIfInBounds_toArray, List.set_cons_zero, List.set_cons_succ]
      refine wpAnyH_ready (rs := [6]) (by kernel_rfl) (by simp) ?_
      refine AllReadyH.cons (o := { dst := some 4, op := Go.Op.alloc 24, type := 0, pos := "law.go:14", after := #[], guard := none }) rfl (fun K hK => ?_) AllReadyH.nil
      · go_simp
        refine hK.out _ _ (live_grow hHeld _) (fun hHeld2 => ?_)
        have gne := live_ne hHeld
        have gw := hHeld.2.size
        obtain ⟨V3, B4, hWn, hBn, h4⟩ : ∃ Wn B, V2.alloc (.cells #[.int .u64 0, .int .u64 0, .int .u64 0, .int .u64 0] 24) = Wn ∧ V2.heap.size = B ∧ At4 Wn B Zr := ⟨_, _, rfl, rfl, At4.new V2 Zr⟩
        rw [hBn] at gne gw
        rw [hWn] at hHeld2 ⊢
        rw [hBn]
        clear hK K hHeld hWn hBn
        have hHeld := hHeld2
        clear hHeld2
        try simp only [Act.put, List.setIfInBounds_toArray, List.set_cons_zero, List.set_cons_succ]
        exact tail _ _ hHeld h4 gne gw
    · go_simp
      refine hK.out _ _ (live_grow hHeld _) (fun hHeld2 => ?_)
      have gne := live_ne hHeld
      have gw := hHeld.2.size
      obtain ⟨V4, B4, hWn, hBn, h4⟩ : ∃ Wn B, V1.alloc (.cells #[.int .u64 0, .int .u64 0, .int .u64 0, .int .u64 0] 24) = Wn ∧ V1.heap.size = B ∧ At4 Wn B Zr := ⟨_, _, rfl, rfl, At4.new V1 Zr⟩
      rw [hBn] at gne gw
      rw [hWn] at hHeld2 ⊢
      rw [hBn]
      clear hK K hHeld hWn hBn
      have hHeld := hHeld2
      clear hHeld2
      try simp only [Act.put, List.setIfInBounds_toArray, List.set_cons_zero, List.set_cons_succ]
      refine wpAnyH_ready (rs := [2]) (by kernel_rfl) (by simp) ?_
      refine AllReadyH.cons (o := { dst := some 24, op := Go.Op.call { callee := Go.Callee.value (Go.Operand.func 10), args := #[Go.Operand.tmp 22, Go.Operand.tmp 23], argTypes := #[24, 24] }, type := 27, pos := "law.go:14", after := #[{ on := 0, ground := Go.Ground.data }, { on := 1, ground := Go.Ground.data }, { on := 1, ground := Go.Ground.chain }], guard := none }) rfl (fun K hK => ?_) AllReadyH.nil
      · go_simp
        refine (C3 _).mono ?_
        rintro e V5 ⟨rfl, hBl⟩
        refine hK.out _ _ (live_below hHeld hBl) (fun hHeld2 => ?_)
        clear hK K hHeld
        have hHeld := hHeld2
        clear hHeld2
        have h4 := h4.below hBl
        clear hBl
        try simp only [Act.put, List.setIfInBounds_toArray, List.set_cons_zero, List.set_cons_succ]
        refine wpAnyH_take (i := 3) (oi := { dst := some 21, op := Go.Op.move (Go.Operand.tmp 24), type := 27, pos := "law.go:14", after := #[{ on := 2, ground := Go.Ground.data }], guard := none }) (v := ?_) rfl (by kernel_rfl) (by kernel_rfl) (by kernel_rfl) (fun _ _ _ h => h) (Or.inl ⟨by rfl, ?_⟩) (by assumption) ?_
        rotate_left
        · intro w hSw
          go_simp
          try with_reducible rfl
        try simp only [Act.put, List.setIfInBounds_toArray, List.set_cons_zero, List.set_cons_succ]
        refine wpAnyH_take (i := 4) (oi := { dst := some 25, op := Go.Op.extract (Go.Operand.tmp 21) 0, type := 24, pos := "law.go:14", after := #[{ on := 3, ground := Go.Ground.data }], guard := none }) (v := ?_) rfl (by kernel_rfl) (by kernel_rfl) (by kernel_rfl) (fun _ _ _ h => h) (Or.inl ⟨by rfl, ?_⟩) (by assumption) ?_
        rotate_left
        · intro w hSw
          go_simp
          try with_reducible rfl
        try simp only [Act.put, List.setIfInBounds_toArray, List.set_cons_zero, List.set_cons_succ]
        refine wpAnyH_take (i := 5) (oi := { dst := some 26, op := Go.Op.extract (Go.Operand.tmp 21) 1, type := 4, pos := "law.go:14", after := #[{ on := 3, ground := Go.Ground.data }, { on := 7, ground := Go.Ground.gcOnly Go.Departure.lateStores }], guard := none }) (v := ?_) rfl (by kernel_rfl) (by kernel_rfl) (by kernel_rfl) (fun _ _ _ h => h) (Or.inl ⟨by rfl, ?_⟩) (by assumption) ?_
        rotate_left
        · intro w hSw
          go_simp
          try with_reducible rfl
        try simp only [Act.put, List.setIfInBounds_toArray, List.set_cons_zero, List.set_cons_succ]
        exact tail _ _ hHeld h4 gne gw
  · go_simp
    refine hK.out _ _ (live_grow hHeld _) (fun hHeld2 => ?_)
    have gne := live_ne hHeld
    have gw := hHeld.2.size
    obtain ⟨V6, B4, hWn, hBn, h4⟩ : ∃ Wn B, W0.alloc (.cells #[.int .u64 0, .int .u64 0, .int .u64 0, .int .u64 0] 24) = Wn ∧ W0.heap.size = B ∧ At4 Wn B Zr := ⟨_, _, rfl, rfl, At4.new W0 Zr⟩
    rw [hBn] at gne gw
    rw [hWn] at hHeld2 ⊢
    rw [hBn]
    clear hK K hHeld hWn hBn
    have hHeld := hHeld2
    clear hHeld2
    try simp only [Act.put, List.setIfInBounds_toArray, List.set_cons_zero, List.set_cons_succ]
    refine wpAnyH_ready (rs := [1]) (by kernel_rfl) (by simp) ?_
    refine AllReadyH.cons (o := { dst := some 23, op := Go.Op.call { callee := Go.Callee.value (Go.Operand.func 22), args := #[Go.Operand.const (Go.Value.int Go.IntKind.i64 1)], argTypes := #[3] }, type := 24, pos := "law.go:14", after := #[], guard := none }) rfl (fun K hK => ?_) AllReadyH.nil
    · go_simp
      refine (C2 _).mono ?_
      rintro e V7 ⟨rfl, hBl⟩
      refine hK.out _ _ (live_below hHeld hBl) (fun hHeld2 => ?_)
      clear hK K hHeld
      have hHeld := hHeld2
      clear hHeld2
      have h4 := h4.below hBl
      clear hBl
      try simp only [Act.put, List.setIfInBounds_toArray, List.set_cons_zero, List.set_cons_succ]
      refine wpAnyH_ready (rs := [2]) (by kernel_rfl) (by simp) ?_
      refine AllReadyH.cons (o := { dst := some 24, op := Go.Op.call { callee := Go.Callee.value (Go.Operand.func 10), args := #[Go.Operand.tmp 22, Go.Operand.tmp 23], argTypes := #[24, 24] }, type := 27, pos := "law.go:14", after := #[{ on := 0, ground := Go.Ground.data }, { on := 1, ground := Go.Ground.data }, { on := 1, ground := Go.Ground.chain }], guard := none }) rfl (fun K hK => ?_) AllReadyH.nil
      · go_simp
        refine (C3 _).mono ?_
        rintro e V8 ⟨rfl, hBl⟩
        refine hK.out _ _ (live_below hHeld hBl) (fun hHeld2 => ?_)
        clear hK K hHeld
        have hHeld := hHeld2
        clear hHeld2
        have h4 := h4.below hBl
        clear hBl
        try simp only [Act.put, List.setIfInBounds_toArray, List.set_cons_zero, List.set_cons_succ]
        refine wpAnyH_take (i := 3) (oi := { dst := some 21, op := Go.Op.move (Go.Operand.tmp 24), type := 27, pos := "law.go:14", after := #[{ on := 2, ground := Go.Ground.data }], guard := none }) (v := ?_) rfl (by kernel_rfl) (by kernel_rfl) (by kernel_rfl) (fun _ _ _ h => h) (Or.inl ⟨by rfl, ?_⟩) (by assumption) ?_
        rotate_left
        · intro w hSw
          go_simp
          try with_reducible rfl
        try simp only [Act.put, List.setIfInBounds_toArray, List.set_cons_zero, List.set_cons_succ]
        refine wpAnyH_take (i := 4) (oi := { dst := some 25, op := Go.Op.extract (Go.Operand.tmp 21) 0, type := 24, pos := "law.go:14", after := #[{ on := 3, ground := Go.Ground.data }], guard := none }) (v := ?_) rfl (by kernel_rfl) (by kernel_rfl) (by kernel_rfl) (fun _ _ _ h => h) (Or.inl ⟨by rfl, ?_⟩) (by assumption) ?_
        rotate_left
        · intro w hSw
          go_simp
          try with_reducible rfl
        try simp only [Act.put, List.setIfInBounds_toArray, List.set_cons_zero, List.set_cons_succ]
        refine wpAnyH_take (i := 5) (oi := { dst := some 26, op := Go.Op.extract (Go.Operand.tmp 21) 1, type := 4, pos := "law.go:14", after := #[{ on := 3, ground := Go.Ground.data }, { on := 7, ground := Go.Ground.gcOnly Go.Departure.lateStores }], guard := none }) (v := ?_) rfl (by kernel_rfl) (by kernel_rfl) (by kernel_rfl) (fun _ _ _ h => h) (Or.inl ⟨by rfl, ?_⟩) (by assumption) ?_
        rotate_left
        · intro w hSw
          go_simp
          try with_reducible rfl
        try simp only [Act.put, List.setIfInBounds_toArray, List.set_cons_zero, List.set_cons_succ]
        exact tail _ _ hHeld h4 gne gw


set_option maxRecDepth 100000 in
set_option maxHeartbeats 8000000 in
theorem wakes_x (w : World) : Calls Try.prog 9 #[] w fun e w' => e = .returned (.bool true) ∧ Below w.heap.size w w' := by
  obtain ⟨r1, hr1⟩ : ∃ r, mulR W127 W127 = r := ⟨_, rfl⟩
  obtain ⟨r2, hr2⟩ : ∃ r, addR Wmo (ofR 1) = r := ⟨_, rfl⟩
  obtain ⟨r3, hr3⟩ : ∃ r, negR r2 = r := ⟨_, rfl⟩
  obtain ⟨r4, hr4⟩ : ∃ r, mulR (ofR (-3)) (ofR 5) = r := ⟨_, rfl⟩
  obtain ⟨p1, hp1⟩ : ∃ r, ofR 1 = r := ⟨_, rfl⟩
  obtain ⟨p7, hp7⟩ : ∃ r, ofR (-7) = r := ⟨_, rfl⟩
  obtain ⟨p3, hp3⟩ : ∃ r, ofR (-3) = r := ⟨_, rfl⟩
  obtain ⟨p5, hp5⟩ : ∃ r, ofR 5 = r := ⟨_, rfl⟩
  obtain ⟨p15, hp15⟩ : ∃ r, ofR (-15) = r := ⟨_, rfl⟩
  obtain ⟨n8, hn8⟩ : ∃ n, intI Wmo = n := ⟨_, rfl⟩
  obtain ⟨o4, ho4⟩ : ∃ o, mulO (ofR (-3)) (ofR 5) = o := ⟨_, rfl⟩
  have v2 : Wds r2 := hr2 ▸ addR_words _ _
  have v4 : Wds r4 := hr4 ▸ mulR_words _ _ (ofR_words _) (ofR_words _)
  have C1 : ∀ W, Calls Try.prog 14 #[.agg #[.int .u64 0, .int .u64 9223372036854775808, .int .u64 0, .int .u64 0], .agg #[.int .u64 0, .int .u64 9223372036854775808, .int .u64 0, .int .u64 0]] W fun e w' => e = .returned (.tuple #[.agg #[.int .u64 (r1 0), .int .u64 (r1 1), .int .u64 (r1 2), .int .u64 (r1 3)], .bool false]) ∧ Below W.heap.size W w' := fun W => mul_c w127_w w127_w hr1 (by kernel_rfl) W
  have C2 : ∀ W, Calls Try.prog 22 #[.int .i64 1] W fun e w' => e = .returned (.agg #[.int .u64 (p1 0), .int .u64 (p1 1), .int .u64 (p1 2), .int .u64 (p1 3)]) ∧ Below W.heap.size W w' := fun W => of_c (by omega) (by omega) hp1 W
  have C3 : ∀ W, Calls Try.prog 10 #[.agg #[.int .u64 18446744073709551615, .int .u64 18446744073709551615, .int .u64 18446744073709551615, .int .u64 9223372036854775807], .agg #[.int .u64 (p1 0), .int .u64 (p1 1), .int .u64 (p1 2), .int .u64 (p1 3)]] W fun e w' => e = .returned (.tuple #[.agg #[.int .u64 (r2 0), .int .u64 (r2 1), .int .u64 (r2 2), .int .u64 (r2 3)], .bool true]) ∧ Below W.heap.size W w' := fun W => by rw [← hp1]; exact add_c wmo_w (ofR_words 1) hr2 (by kernel_rfl) W
  have C4 : ∀ W, Calls Try.prog 22 #[.int .i64 (-7)] W fun e w' => e = .returned (.agg #[.int .u64 (p7 0), .int .u64 (p7 1), .int .u64 (p7 2), .int .u64 (p7 3)]) ∧ Below W.heap.size W w' := fun W => of_c (by omega) (by omega) hp7 W
  have C5 : ∀ W, Calls Try.prog 20 #[.agg #[.int .u64 (p7 0), .int .u64 (p7 1), .int .u64 (p7 2), .int .u64 (p7 3)]] W fun e w' => e = .returned (.tuple #[.int .i64 (-7), .bool true]) ∧ Below W.heap.size W w' := fun W => by rw [← hp7]; exact int_c (ofR_words _) (by kernel_rfl) (by kernel_rfl) W
  have C6 : ∀ W, Calls Try.prog 20 #[.agg #[.int .u64 18446744073709551615, .int .u64 18446744073709551615, .int .u64 18446744073709551615, .int .u64 9223372036854775807]] W fun e w' => e = .returned (.tuple #[.int .i64 n8, .bool false]) ∧ Below W.heap.size W w' := fun W => int_c wmo_w hn8 (by kernel_rfl) W
  have C7 : ∀ W, Calls Try.prog 16 #[.agg #[.int .u64 (r2 0), .int .u64 (r2 1), .int .u64 (r2 2), .int .u64 (r2 3)]] W fun e w' => e = .returned (.tuple #[.agg #[.int .u64 (r3 0), .int .u64 (r3 1), .int .u64 (r3 2), .int .u64 (r3 3)], .bool true]) ∧ Below W.heap.size W w' := fun W => neg_c v2 hr3 (by rw [← hr2]; kernel_rfl) W
  have C8 : ∀ W, Calls Try.prog 22 #[.int .i64 (-3)] W fun e w' => e = .returned (.agg #[.int .u64 (p3 0), .int .u64 (p3 1), .int .u64 (p3 2), .int .u64 (p3 3)]) ∧ Below W.heap.size W w' := fun W => of_c (by omega) (by omega) hp3 W
  have C9 : ∀ W, Calls Try.prog 22 #[.int .i64 5] W fun e w' => e = .returned (.agg #[.int .u64 (p5 0), .int .u64 (p5 1), .int .u64 (p5 2), .int .u64 (p5 3)]) ∧ Below W.heap.size W w' := fun W => of_c (by omega) (by omega) hp5 W
  have C10 : ∀ W, Calls Try.prog 14 #[.agg #[.int .u64 (p3 0), .int .u64 (p3 1), .int .u64 (p3 2), .int .u64 (p3 3)], .agg #[.int .u64 (p5 0), .int .u64 (p5 1), .int .u64 (p5 2), .int .u64 (p5 3)]] W fun e w' => e = .returned (.tuple #[.agg #[.int .u64 (r4 0), .int .u64 (r4 1), .int .u64 (r4 2), .int .u64 (r4 3)], .bool o4]) ∧ Below W.heap.size W w' := fun W => by rw [← hp3, ← hp5]; exact mul_c (ofR_words _) (ofR_words _) hr4 ho4 W
  have C11 : ∀ W, Calls Try.prog 22 #[.int .i64 (-15)] W fun e w' => e = .returned (.agg #[.int .u64 (p15 0), .int .u64 (p15 1), .int .u64 (p15 2), .int .u64 (p15 3)]) ∧ Below W.heap.size W w' := fun W => of_c (by omega) (by omega) hp15 W
  have C12 : ∀ W, Calls Try.prog 24 #[.agg #[.int .u64 (r2 0), .int .u64 (r2 1), .int .u64 (r2 2), .int .u64 (r2 3)], .agg #[.int .u64 18446744073709551615, .int .u64 18446744073709551615, .int .u64 18446744073709551615, .int .u64 9223372036854775807]] W fun e w' => e = .returned (.int .i64 (-1)) ∧ Below W.heap.size W w' := fun W => cmp_c v2 wmo_w (by rw [← hr2]; kernel_rfl) W
  have C13 : ∀ W, Calls Try.prog 26 #[.agg #[.int .u64 (r4 0), .int .u64 (r4 1), .int .u64 (r4 2), .int .u64 (r4 3)]] W fun e w' => e = .returned (.int .i64 (-1)) ∧ Below W.heap.size W w' := fun W => sign_c v4 (by rw [← hr4]; kernel_rfl) W
  have C14 : ∀ W, Calls Try.prog 26 #[.agg #[.int .u64 0, .int .u64 0, .int .u64 0, .int .u64 0]] W fun e w' => e = .returned (.int .i64 0) ∧ Below W.heap.size W w' := fun W => sign_c zr_words (by kernel_rfl) W
  have E1 : ∀ w, (Op.equalIn 10000 24 (.agg #[.int .u64 (r1 0), .int .u64 (r1 1), .int .u64 (r1 2), .int .u64 (r1 3)]) (.agg #[.int .u64 0, .int .u64 0, .int .u64 0, .int .u64 4611686018427387904])).run Try.prog w = .ok true w := fun w => eq_c (b := Wl1) (by rw [← hr1]; kernel_rfl) w
  have E2 : ∀ w, (Op.equalIn 10000 24 (.agg #[.int .u64 (r2 0), .int .u64 (r2 1), .int .u64 (r2 2), .int .u64 (r2 3)]) (.agg #[.int .u64 0, .int .u64 0, .int .u64 0, .int .u64 9223372036854775808])).run Try.prog w = .ok true w := fun w => eq_c (b := Wl2) (by rw [← hr2]; kernel_rfl) w
  have E3 : ∀ w, (Op.equalIn 10000 24 (.agg #[.int .u64 (r3 0), .int .u64 (r3 1), .int .u64 (r3 2), .int .u64 (r3 3)]) (.agg #[.int .u64 (r2 0), .int .u64 (r2 1), .int .u64 (r2 2), .int .u64 (r2 3)])).run Try.prog w = .ok true w := fun w => eq_c (by rw [← hr3, ← hr2]; kernel_rfl) w
  have E4 : ∀ w, (Op.equalIn 10000 24 (.agg #[.int .u64 (r4 0), .int .u64 (r4 1), .int .u64 (r4 2), .int .u64 (r4 3)]) (.agg #[.int .u64 (p15 0), .int .u64 (p15 1), .int .u64 (p15 2), .int .u64 (p15 3)])).run Try.prog w = .ok true w := fun w => eq_c (by rw [← hr4, ← hp15]; kernel_rfl) w
  clear hr1 hr2 hr3 hr4 hp1 hp7 hp3 hp5 hp15 hn8 ho4 v2 v4
  have hL := live_nil w
  go_enter Try.func9, Try.ntmps9
  go_wp2_with fail
  refine (C1 _).mono ?_
  rintro e W1 ⟨rfl, hB⟩
  have hL2 := live_alloc (live_alloc (live_below hL hB) r1) Wmo
  clear hB hL
  go_wp2_with fail
  rw [World.size_alloc] at hL2
  obtain ⟨V, hV⟩ : ∃ V, (W1.alloc (.cells #[.int .u64 (r1 0), .int .u64 (r1 1), .int .u64 (r1 2), .int .u64 (r1 3)] 24)).alloc (.cells #[.int .u64 18446744073709551615, .int .u64 18446744073709551615, .int .u64 18446744073709551615, .int .u64 9223372036854775807] 24) = V := ⟨_, rfl⟩
  change Live w [(W1.heap.size + 1, Wmo), (W1.heap.size, r1)] ((W1.alloc (.cells #[.int .u64 (r1 0), .int .u64 (r1 1), .int .u64 (r1 2), .int .u64 (r1 3)] 24)).alloc (.cells #[.int .u64 18446744073709551615, .int .u64 18446744073709551615, .int .u64 18446744073709551615, .int .u64 9223372036854775807] 24)) at hL2
  rw [hV] at hL2 ⊢
  obtain ⟨B2, hB2⟩ : ∃ B2, W1.heap.size + 1 = B2 := ⟨_, rfl⟩
  rw [hB2] at hL2 ⊢
  obtain ⟨B1, hB1⟩ : ∃ B1, W1.heap.size = B1 := ⟨_, rfl⟩
  rw [hB1] at hL2 ⊢
  clear hV hB1 hB2
  refine Code.wp_mono ?_ (wk_r3 w B1 B2 r1 r2 p1 V hL2 C2 C3)
  rintro e a' W2 ⟨rfl, B4, rfl, hL⟩
  clear hL2 C1 C2 C3
  go_wp2_with fail
  refine (C4 _).mono ?_
  rintro e W3 ⟨rfl, hB⟩
  have hL3 := live_below hL hB
  clear hB hL C4
  go_wp2_with fail
  refine (C5 _).mono ?_
  rintro e W4 ⟨rfl, hB⟩
  have hL4 := live_below hL3 hB
  clear hB hL3 C5
  have k0 : (W4 : World).cell? ⟨B2, 0, none⟩ = some (.int .u64 18446744073709551615) := (live_get hL4 B2 Wmo (by simp)).cell 0 (by omega)
  have k1 : (W4 : World).cell? ⟨B2, 1, none⟩ = some (.int .u64 18446744073709551615) := (live_get hL4 B2 Wmo (by simp)).cell 1 (by omega)
  have k2 : (W4 : World).cell? ⟨B2, 2, none⟩ = some (.int .u64 18446744073709551615) := (live_get hL4 B2 Wmo (by simp)).cell 2 (by omega)
  have k3 : (W4 : World).cell? ⟨B2, 3, none⟩ = some (.int .u64 9223372036854775807) := (live_get hL4 B2 Wmo (by simp)).cell 3 (by omega)
  go_wp2_with fail
  clear k0 k1 k2 k3
  refine (C6 _).mono ?_
  rintro e W5 ⟨rfl, hB⟩
  have hL5 := live_below hL4 hB
  clear hB hL4 C6
  have k0 := (live_get hL5 B4 r2 (by simp)).cell 0 (by omega)
  have k1 := (live_get hL5 B4 r2 (by simp)).cell 1 (by omega)
  have k2 := (live_get hL5 B4 r2 (by simp)).cell 2 (by omega)
  have k3 := (live_get hL5 B4 r2 (by simp)).cell 3 (by omega)
  go_wp2_with fail
  clear k0 k1 k2 k3
  refine (C7 _).mono ?_
  rintro e W6 ⟨rfl, hB⟩
  have hL6 := live_alloc (live_below hL5 hB) r3
  clear hB hL5 C7
  go_wp2_with fail
  obtain ⟨B10, hB10⟩ : ∃ B, W6.heap.size = B := ⟨_, rfl⟩
  obtain ⟨V6, hV6⟩ : ∃ V, W6.alloc (.cells #[.int .u64 (r3 0), .int .u64 (r3 1), .int .u64 (r3 2), .int .u64 (r3 3)] 24) = V := ⟨_, rfl⟩
  rw [hB10, hV6] at hL6
  rw [hB10, hV6]
  clear hB10 hV6
  refine (C8 _).mono ?_
  rintro e W7 ⟨rfl, hB⟩
  have hL7 := live_below hL6 hB
  clear hB hL6 C8
  go_wp2_with fail
  refine (C9 _).mono ?_
  rintro e W8 ⟨rfl, hB⟩
  have hL8 := live_below hL7 hB
  clear hB hL7 C9
  go_wp2_with fail
  refine (C10 _).mono ?_
  rintro e W9 ⟨rfl, hB⟩
  have hL9 := live_alloc (live_below hL8 hB) r4
  clear hB hL8 C10
  go_wp2_with fail
  obtain ⟨B12, hB12⟩ : ∃ B, W9.heap.size = B := ⟨_, rfl⟩
  obtain ⟨V9, hV9⟩ : ∃ V, W9.alloc (.cells #[.int .u64 (r4 0), .int .u64 (r4 1), .int .u64 (r4 2), .int .u64 (r4 3)] 24) = V := ⟨_, rfl⟩
  rw [hB12, hV9] at hL9
  rw [hB12, hV9]
  clear hB12 hV9
  refine wp_region_held_drew (S := fun W' => Live w [(B12, r4), (B10, r3), (B4, r2), (B2, Wmo), (B1, r1)] W') (by kernel_rfl) (live_drew hL9) (fun hHeld => ?_)
  obtain ⟨W0, hW0⟩ : ∃ W0, V9.drew = W0 := ⟨_, rfl⟩
  rw [hW0] at hHeld ⊢
  clear hW0 hL9
  refine wpAnyH_take (i := 0) (oi := { dst := some 48, op := Go.Op.load 24 (Go.Operand.tmp 1), type := 24, pos := "law.go:19", after := #[], guard := none }) (v := ?_) rfl (by kernel_rfl) (by kernel_rfl) (by kernel_rfl) (fun _ _ _ h => h) (Or.inl ⟨by rfl, ?_⟩) (by assumption) ?_
  rotate_left
  · intro w hSw
    have k0 := (live_get hSw B1 r1 (by simp)).cell 0 (by omega)
    have k1 := (live_get hSw B1 r1 (by simp)).cell 1 (by omega)
    have k2 := (live_get hSw B1 r1 (by simp)).cell 2 (by omega)
    have k3 := (live_get hSw B1 r1 (by simp)).cell 3 (by omega)
    go_simp
    try with_reducible rfl
  try simp only [Act.put, List.setIfInBounds_toArray, List.set_cons_zero, List.set_cons_succ]
  refine wpAnyH_take (i := 1) (oi := { dst := some 49, op := Go.Op.build 24 #[(0, Go.Operand.const (Go.Value.int Go.IntKind.u64 0)), (1, Go.Operand.const (Go.Value.int Go.IntKind.u64 0)), (2, Go.Operand.const (Go.Value.int Go.IntKind.u64 0)), (3, Go.Operand.const (Go.Value.int Go.IntKind.u64 4611686018427387904))], type := 24, pos := "law.go:19", after := #[], guard := none }) (v := ?_) rfl (by kernel_rfl) (by kernel_rfl) (by kernel_rfl) (fun _ _ _ h => h) (Or.inl ⟨by rfl, ?_⟩) (by assumption) ?_
  rotate_left
  · intro w hSw
    go_simp
    try with_reducible rfl
  try simp only [Act.put, List.setIfInBounds_toArray, List.set_cons_zero, List.set_cons_succ]
  refine wpAnyH_take (i := 2) (oi := { dst := some 50, op := Go.Op.binOp Go.BinOp.eql 24 (Go.Operand.tmp 48) (Go.Operand.tmp 49) 24, type := 4, pos := "law.go:19", after := #[{ on := 0, ground := Go.Ground.data }, { on := 1, ground := Go.Ground.data }], guard := none }) (v := ?_) rfl (by kernel_rfl) (by kernel_rfl) (by kernel_rfl) (fun _ _ _ h => h) (Or.inl ⟨by rfl, ?_⟩) (by assumption) ?_
  rotate_left
  · intro w hSw
    go_simp
    try with_reducible rfl
  try simp only [Act.put, List.setIfInBounds_toArray, List.set_cons_zero, List.set_cons_succ]
  refine wpAnyH_take (i := 3) (oi := { dst := some 51, op := Go.Op.move (Go.Operand.tmp 50), type := 4, pos := "law.go:19", after := #[{ on := 2, ground := Go.Ground.data }], guard := none }) (v := ?_) rfl (by kernel_rfl) (by kernel_rfl) (by kernel_rfl) (fun _ _ _ h => h) (Or.inl ⟨by rfl, ?_⟩) (by assumption) ?_
  rotate_left
  · intro w hSw
    go_simp
    try with_reducible rfl
  try simp only [Act.put, List.setIfInBounds_toArray, List.set_cons_zero, List.set_cons_succ]
  refine wpAnyH_take (i := 4) (oi := { dst := some 52, op := Go.Op.move (Go.Operand.tmp 2), type := 4, pos := "law.go:19", after := #[{ on := 3, ground := Go.Ground.guard }], guard := some (3, true) }) (v := ?_) rfl (by kernel_rfl) (by kernel_rfl) (by kernel_rfl) (fun _ _ _ h => h) (Or.inl ⟨by rfl, ?_⟩) (by assumption) ?_
  rotate_left
  · intro w hSw
    go_simp
    try with_reducible rfl
  try simp only [Act.put, List.setIfInBounds_toArray, List.set_cons_zero, List.set_cons_succ]
  refine wpAnyH_take (i := 5) (oi := { dst := some 53, op := Go.Op.unOp Go.UnOp.not 4 (Go.Operand.tmp 52), type := 4, pos := "law.go:19", after := #[{ on := 4, ground := Go.Ground.data }, { on := 3, ground := Go.Ground.guard }], guard := some (3, true) }) (v := ?_) rfl (by kernel_rfl) (by kernel_rfl) (by kernel_rfl) (fun _ _ _ h => h) (Or.inl ⟨by rfl, ?_⟩) (by assumption) ?_
  rotate_left
  · intro w hSw
    go_simp
    try with_reducible rfl
  try simp only [Act.put, List.setIfInBounds_toArray, List.set_cons_zero, List.set_cons_succ]
  refine wpAnyH_take (i := 6) (oi := { dst := some 54, op := Go.Op.pick (Go.Operand.tmp 51) (Go.Operand.tmp 53) (Go.Operand.const (Go.Value.bool false)), type := 4, pos := "law.go:19", after := #[{ on := 3, ground := Go.Ground.data }, { on := 5, ground := Go.Ground.data }], guard := none }) (v := ?_) rfl (by kernel_rfl) (by kernel_rfl) (by kernel_rfl) (fun _ _ _ h => h) (Or.inl ⟨by rfl, ?_⟩) (by assumption) ?_
  rotate_left
  · intro w hSw
    go_simp
    try with_reducible rfl
  try simp only [Act.put, List.setIfInBounds_toArray, List.set_cons_zero, List.set_cons_succ]
  refine wpAnyH_take (i := 7) (oi := { dst := some 55, op := Go.Op.move (Go.Operand.tmp 54), type := 4, pos := "law.go:19", after := #[{ on := 6, ground := Go.Ground.data }, { on := 3, ground := Go.Ground.chain }], guard := none }) (v := ?_) rfl (by kernel_rfl) (by kernel_rfl) (by kernel_rfl) (fun _ _ _ h => h) (Or.inl ⟨by rfl, ?_⟩) (by assumption) ?_
  rotate_left
  · intro w hSw
    go_simp
    try with_reducible rfl
  try simp only [Act.put, List.setIfInBounds_toArray, List.set_cons_zero, List.set_cons_succ]
  refine wpAnyH_take (i := 8) (oi := { dst := some 56, op := Go.Op.load 24 (Go.Operand.tmp 4), type := 24, pos := "law.go:19", after := #[{ on := 7, ground := Go.Ground.guard }], guard := some (7, true) }) (v := ?_) rfl (by kernel_rfl) (by kernel_rfl) (by kernel_rfl) (fun _ _ _ h => h) (Or.inl ⟨by rfl, ?_⟩) (by assumption) ?_
  rotate_left
  · intro w hSw
    have k0 := (live_get hSw B4 r2 (by simp)).cell 0 (by omega)
    have k1 := (live_get hSw B4 r2 (by simp)).cell 1 (by omega)
    have k2 := (live_get hSw B4 r2 (by simp)).cell 2 (by omega)
    have k3 := (live_get hSw B4 r2 (by simp)).cell 3 (by omega)
    go_simp
    try with_reducible rfl
  try simp only [Act.put, List.setIfInBounds_toArray, List.set_cons_zero, List.set_cons_succ]
  refine wpAnyH_take (i := 9) (oi := { dst := some 57, op := Go.Op.build 24 #[(0, Go.Operand.const (Go.Value.int Go.IntKind.u64 0)), (1, Go.Operand.const (Go.Value.int Go.IntKind.u64 0)), (2, Go.Operand.const (Go.Value.int Go.IntKind.u64 0)), (3, Go.Operand.const (Go.Value.int Go.IntKind.u64 9223372036854775808))], type := 24, pos := "law.go:19", after := #[{ on := 7, ground := Go.Ground.guard }], guard := some (7, true) }) (v := ?_) rfl (by kernel_rfl) (by kernel_rfl) (by kernel_rfl) (fun _ _ _ h => h) (Or.inl ⟨by rfl, ?_⟩) (by assumption) ?_
  rotate_left
  · intro w hSw
    go_simp
    try with_reducible rfl
  try simp only [Act.put, List.setIfInBounds_toArray, List.set_cons_zero, List.set_cons_succ]
  refine wpAnyH_take (i := 10) (oi := { dst := some 58, op := Go.Op.binOp Go.BinOp.eql 24 (Go.Operand.tmp 56) (Go.Operand.tmp 57) 24, type := 4, pos := "law.go:19", after := #[{ on := 8, ground := Go.Ground.data }, { on := 9, ground := Go.Ground.data }, { on := 7, ground := Go.Ground.guard }], guard := some (7, true) }) (v := ?_) rfl (by kernel_rfl) (by kernel_rfl) (by kernel_rfl) (fun _ _ _ h => h) (Or.inl ⟨by rfl, ?_⟩) (by assumption) ?_
  rotate_left
  · intro w hSw
    go_simp
    try with_reducible rfl
  try simp only [Act.put, List.setIfInBounds_toArray, List.set_cons_zero, List.set_cons_succ]
  refine wpAnyH_take (i := 11) (oi := { dst := some 59, op := Go.Op.pick (Go.Operand.tmp 55) (Go.Operand.tmp 58) (Go.Operand.const (Go.Value.bool false)), type := 4, pos := "law.go:19", after := #[{ on := 7, ground := Go.Ground.data }, { on := 10, ground := Go.Ground.data }], guard := none }) (v := ?_) rfl (by kernel_rfl) (by kernel_rfl) (by kernel_rfl) (fun _ _ _ h => h) (Or.inl ⟨by rfl, ?_⟩) (by assumption) ?_
  rotate_left
  · intro w hSw
    go_simp
    try with_reducible rfl
  try simp only [Act.put, List.setIfInBounds_toArray, List.set_cons_zero, List.set_cons_succ]
  refine wpAnyH_take (i := 12) (oi := { dst := some 60, op := Go.Op.move (Go.Operand.tmp 59), type := 4, pos := "law.go:19", after := #[{ on := 11, ground := Go.Ground.data }, { on := 7, ground := Go.Ground.chain }], guard := none }) (v := ?_) rfl (by kernel_rfl) (by kernel_rfl) (by kernel_rfl) (fun _ _ _ h => h) (Or.inl ⟨by rfl, ?_⟩) (by assumption) ?_
  rotate_left
  · intro w hSw
    go_simp
    try with_reducible rfl
  try simp only [Act.put, List.setIfInBounds_toArray, List.set_cons_zero, List.set_cons_succ]
  refine wpAnyH_take (i := 13) (oi := { dst := some 61, op := Go.Op.move (Go.Operand.tmp 5), type := 4, pos := "law.go:19", after := #[{ on := 12, ground := Go.Ground.guard }], guard := some (12, true) }) (v := ?_) rfl (by kernel_rfl) (by kernel_rfl) (by kernel_rfl) (fun _ _ _ h => h) (Or.inl ⟨by rfl, ?_⟩) (by assumption) ?_
  rotate_left
  · intro w hSw
    go_simp
    try with_reducible rfl
  try simp only [Act.put, List.setIfInBounds_toArray, List.set_cons_zero, List.set_cons_succ]
  refine wpAnyH_take (i := 14) (oi := { dst := some 62, op := Go.Op.pick (Go.Operand.tmp 60) (Go.Operand.tmp 61) (Go.Operand.const (Go.Value.bool false)), type := 4, pos := "law.go:19", after := #[{ on := 12, ground := Go.Ground.data }, { on := 13, ground := Go.Ground.data }], guard := none }) (v := ?_) rfl (by kernel_rfl) (by kernel_rfl) (by kernel_rfl) (fun _ _ _ h => h) (Or.inl ⟨by rfl, ?_⟩) (by assumption) ?_
  rotate_left
  · intro w hSw
    go_simp
    try with_reducible rfl
  try simp only [Act.put, List.setIfInBounds_toArray, List.set_cons_zero, List.set_cons_succ]
  refine wpAnyH_take (i := 15) (oi := { dst := some 63, op := Go.Op.move (Go.Operand.tmp 62), type := 4, pos := "law.go:19", after := #[{ on := 14, ground := Go.Ground.data }, { on := 12, ground := Go.Ground.chain }], guard := none }) (v := ?_) rfl (by kernel_rfl) (by kernel_rfl) (by kernel_rfl) (fun _ _ _ h => h) (Or.inl ⟨by rfl, ?_⟩) (by assumption) ?_
  rotate_left
  · intro w hSw
    go_simp
    try with_reducible rfl
  try simp only [Act.put, List.setIfInBounds_toArray, List.set_cons_zero, List.set_cons_succ]
  refine wpAnyH_take (i := 16) (oi := { dst := some 64, op := Go.Op.move (Go.Operand.tmp 6), type := 3, pos := "law.go:19", after := #[{ on := 15, ground := Go.Ground.guard }], guard := some (15, true) }) (v := ?_) rfl (by kernel_rfl) (by kernel_rfl) (by kernel_rfl) (fun _ _ _ h => h) (Or.inl ⟨by rfl, ?_⟩) (by assumption) ?_
  rotate_left
  · intro w hSw
    go_simp
    try with_reducible rfl
  try simp only [Act.put, List.setIfInBounds_toArray, List.set_cons_zero, List.set_cons_succ]
  refine wpAnyH_take (i := 17) (oi := { dst := some 65, op := Go.Op.binOp Go.BinOp.eql 3 (Go.Operand.tmp 64) (Go.Operand.const (Go.Value.int Go.IntKind.i64 (-7))) 3, type := 4, pos := "law.go:19", after := #[{ on := 16, ground := Go.Ground.data }, { on := 15, ground := Go.Ground.guard }], guard := some (15, true) }) (v := ?_) rfl (by kernel_rfl) (by kernel_rfl) (by kernel_rfl) (fun _ _ _ h => h) (Or.inl ⟨by rfl, ?_⟩) (by assumption) ?_
  rotate_left
  · intro w hSw
    go_simp
    try with_reducible rfl
  try simp only [Act.put, List.setIfInBounds_toArray, List.set_cons_zero, List.set_cons_succ]
  refine wpAnyH_take (i := 18) (oi := { dst := some 66, op := Go.Op.pick (Go.Operand.tmp 63) (Go.Operand.tmp 65) (Go.Operand.const (Go.Value.bool false)), type := 4, pos := "law.go:19", after := #[{ on := 15, ground := Go.Ground.data }, { on := 17, ground := Go.Ground.data }], guard := none }) (v := ?_) rfl (by kernel_rfl) (by kernel_rfl) (by kernel_rfl) (fun _ _ _ h => h) (Or.inl ⟨by rfl, ?_⟩) (by assumption) ?_
  rotate_left
  · intro w hSw
    go_simp
    try with_reducible rfl
  try simp only [Act.put, List.setIfInBounds_toArray, List.set_cons_zero, List.set_cons_succ]
  refine wpAnyH_take (i := 19) (oi := { dst := some 67, op := Go.Op.move (Go.Operand.tmp 66), type := 4, pos := "law.go:19", after := #[{ on := 18, ground := Go.Ground.data }, { on := 15, ground := Go.Ground.chain }], guard := none }) (v := ?_) rfl (by kernel_rfl) (by kernel_rfl) (by kernel_rfl) (fun _ _ _ h => h) (Or.inl ⟨by rfl, ?_⟩) (by assumption) ?_
  rotate_left
  · intro w hSw
    go_simp
    try with_reducible rfl
  try simp only [Act.put, List.setIfInBounds_toArray, List.set_cons_zero, List.set_cons_succ]
  refine wpAnyH_take (i := 20) (oi := { dst := some 68, op := Go.Op.move (Go.Operand.tmp 7), type := 4, pos := "law.go:19", after := #[{ on := 19, ground := Go.Ground.guard }], guard := some (19, true) }) (v := ?_) rfl (by kernel_rfl) (by kernel_rfl) (by kernel_rfl) (fun _ _ _ h => h) (Or.inl ⟨by rfl, ?_⟩) (by assumption) ?_
  rotate_left
  · intro w hSw
    go_simp
    try with_reducible rfl
  try simp only [Act.put, List.setIfInBounds_toArray, List.set_cons_zero, List.set_cons_succ]
  refine wpAnyH_take (i := 21) (oi := { dst := some 69, op := Go.Op.pick (Go.Operand.tmp 67) (Go.Operand.tmp 68) (Go.Operand.const (Go.Value.bool false)), type := 4, pos := "law.go:19", after := #[{ on := 19, ground := Go.Ground.data }, { on := 20, ground := Go.Ground.data }], guard := none }) (v := ?_) rfl (by kernel_rfl) (by kernel_rfl) (by kernel_rfl) (fun _ _ _ h => h) (Or.inl ⟨by rfl, ?_⟩) (by assumption) ?_
  rotate_left
  · intro w hSw
    go_simp
    try with_reducible rfl
  try simp only [Act.put, List.setIfInBounds_toArray, List.set_cons_zero, List.set_cons_succ]
  refine wpAnyH_take (i := 22) (oi := { dst := some 70, op := Go.Op.move (Go.Operand.tmp 69), type := 4, pos := "law.go:19", after := #[{ on := 21, ground := Go.Ground.data }, { on := 19, ground := Go.Ground.chain }], guard := none }) (v := ?_) rfl (by kernel_rfl) (by kernel_rfl) (by kernel_rfl) (fun _ _ _ h => h) (Or.inl ⟨by rfl, ?_⟩) (by assumption) ?_
  rotate_left
  · intro w hSw
    go_simp
    try with_reducible rfl
  try simp only [Act.put, List.setIfInBounds_toArray, List.set_cons_zero, List.set_cons_succ]
  refine wpAnyH_take (i := 23) (oi := { dst := some 71, op := Go.Op.move (Go.Operand.tmp 9), type := 4, pos := "law.go:19", after := #[{ on := 22, ground := Go.Ground.guard }], guard := some (22, true) }) (v := ?_) rfl (by kernel_rfl) (by kernel_rfl) (by kernel_rfl) (fun _ _ _ h => h) (Or.inl ⟨by rfl, ?_⟩) (by assumption) ?_
  rotate_left
  · intro w hSw
    go_simp
    try with_reducible rfl
  try simp only [Act.put, List.setIfInBounds_toArray, List.set_cons_zero, List.set_cons_succ]
  refine wpAnyH_take (i := 24) (oi := { dst := some 72, op := Go.Op.unOp Go.UnOp.not 4 (Go.Operand.tmp 71), type := 4, pos := "law.go:19", after := #[{ on := 23, ground := Go.Ground.data }, { on := 22, ground := Go.Ground.guard }], guard := some (22, true) }) (v := ?_) rfl (by kernel_rfl) (by kernel_rfl) (by kernel_rfl) (fun _ _ _ h => h) (Or.inl ⟨by rfl, ?_⟩) (by assumption) ?_
  rotate_left
  · intro w hSw
    go_simp
    try with_reducible rfl
  try simp only [Act.put, List.setIfInBounds_toArray, List.set_cons_zero, List.set_cons_succ]
  refine wpAnyH_take (i := 25) (oi := { dst := some 73, op := Go.Op.pick (Go.Operand.tmp 70) (Go.Operand.tmp 72) (Go.Operand.const (Go.Value.bool false)), type := 4, pos := "law.go:19", after := #[{ on := 22, ground := Go.Ground.data }, { on := 24, ground := Go.Ground.data }], guard := none }) (v := ?_) rfl (by kernel_rfl) (by kernel_rfl) (by kernel_rfl) (fun _ _ _ h => h) (Or.inl ⟨by rfl, ?_⟩) (by assumption) ?_
  rotate_left
  · intro w hSw
    go_simp
    try with_reducible rfl
  try simp only [Act.put, List.setIfInBounds_toArray, List.set_cons_zero, List.set_cons_succ]
  refine wpAnyH_take (i := 26) (oi := { dst := some 74, op := Go.Op.move (Go.Operand.tmp 73), type := 4, pos := "law.go:19", after := #[{ on := 25, ground := Go.Ground.data }, { on := 22, ground := Go.Ground.chain }], guard := none }) (v := ?_) rfl (by kernel_rfl) (by kernel_rfl) (by kernel_rfl) (fun _ _ _ h => h) (Or.inl ⟨by rfl, ?_⟩) (by assumption) ?_
  rotate_left
  · intro w hSw
    go_simp
    try with_reducible rfl
  try simp only [Act.put, List.setIfInBounds_toArray, List.set_cons_zero, List.set_cons_succ]
  refine wpAnyH_take (i := 27) (oi := { dst := some 75, op := Go.Op.load 24 (Go.Operand.tmp 10), type := 24, pos := "law.go:19", after := #[{ on := 26, ground := Go.Ground.guard }], guard := some (26, true) }) (v := ?_) rfl (by kernel_rfl) (by kernel_rfl) (by kernel_rfl) (fun _ _ _ h => h) (Or.inl ⟨by rfl, ?_⟩) (by assumption) ?_
  rotate_left
  · intro w hSw
    have k0 := (live_get hSw B10 r3 (by simp)).cell 0 (by omega)
    have k1 := (live_get hSw B10 r3 (by simp)).cell 1 (by omega)
    have k2 := (live_get hSw B10 r3 (by simp)).cell 2 (by omega)
    have k3 := (live_get hSw B10 r3 (by simp)).cell 3 (by omega)
    go_simp
    try with_reducible rfl
  try simp only [Act.put, List.setIfInBounds_toArray, List.set_cons_zero, List.set_cons_succ]
  refine wpAnyH_take (i := 28) (oi := { dst := some 76, op := Go.Op.load 24 (Go.Operand.tmp 4), type := 24, pos := "law.go:19", after := #[{ on := 26, ground := Go.Ground.guard }], guard := some (26, true) }) (v := ?_) rfl (by kernel_rfl) (by kernel_rfl) (by kernel_rfl) (fun _ _ _ h => h) (Or.inl ⟨by rfl, ?_⟩) (by assumption) ?_
  rotate_left
  · intro w hSw
    have k0 := (live_get hSw B4 r2 (by simp)).cell 0 (by omega)
    have k1 := (live_get hSw B4 r2 (by simp)).cell 1 (by omega)
    have k2 := (live_get hSw B4 r2 (by simp)).cell 2 (by omega)
    have k3 := (live_get hSw B4 r2 (by simp)).cell 3 (by omega)
    go_simp
    try with_reducible rfl
  try simp only [Act.put, List.setIfInBounds_toArray, List.set_cons_zero, List.set_cons_succ]
  refine wpAnyH_take (i := 29) (oi := { dst := some 77, op := Go.Op.binOp Go.BinOp.eql 24 (Go.Operand.tmp 75) (Go.Operand.tmp 76) 24, type := 4, pos := "law.go:19", after := #[{ on := 27, ground := Go.Ground.data }, { on := 28, ground := Go.Ground.data }, { on := 26, ground := Go.Ground.guard }], guard := some (26, true) }) (v := ?_) rfl (by kernel_rfl) (by kernel_rfl) (by kernel_rfl) (fun _ _ _ h => h) (Or.inl ⟨by rfl, ?_⟩) (by assumption) ?_
  rotate_left
  · intro w hSw
    go_simp
    try with_reducible rfl
  try simp only [Act.put, List.setIfInBounds_toArray, List.set_cons_zero, List.set_cons_succ]
  refine wpAnyH_take (i := 30) (oi := { dst := some 78, op := Go.Op.pick (Go.Operand.tmp 74) (Go.Operand.tmp 77) (Go.Operand.const (Go.Value.bool false)), type := 4, pos := "law.go:19", after := #[{ on := 26, ground := Go.Ground.data }, { on := 29, ground := Go.Ground.data }], guard := none }) (v := ?_) rfl (by kernel_rfl) (by kernel_rfl) (by kernel_rfl) (fun _ _ _ h => h) (Or.inl ⟨by rfl, ?_⟩) (by assumption) ?_
  rotate_left
  · intro w hSw
    go_simp
    try with_reducible rfl
  try simp only [Act.put, List.setIfInBounds_toArray, List.set_cons_zero, List.set_cons_succ]
  refine wpAnyH_take (i := 31) (oi := { dst := some 79, op := Go.Op.move (Go.Operand.tmp 78), type := 4, pos := "law.go:19", after := #[{ on := 30, ground := Go.Ground.data }, { on := 26, ground := Go.Ground.chain }], guard := none }) (v := ?_) rfl (by kernel_rfl) (by kernel_rfl) (by kernel_rfl) (fun _ _ _ h => h) (Or.inl ⟨by rfl, ?_⟩) (by assumption) ?_
  rotate_left
  · intro w hSw
    go_simp
    try with_reducible rfl
  try simp only [Act.put, List.setIfInBounds_toArray, List.set_cons_zero, List.set_cons_succ]
  refine wpAnyH_take (i := 32) (oi := { dst := some 80, op := Go.Op.move (Go.Operand.tmp 11), type := 4, pos := "law.go:19", after := #[{ on := 31, ground := Go.Ground.guard }], guard := some (31, true) }) (v := ?_) rfl (by kernel_rfl) (by kernel_rfl) (by kernel_rfl) (fun _ _ _ h => h) (Or.inl ⟨by rfl, ?_⟩) (by assumption) ?_
  rotate_left
  · intro w hSw
    go_simp
    try with_reducible rfl
  try simp only [Act.put, List.setIfInBounds_toArray, List.set_cons_zero, List.set_cons_succ]
  refine wpAnyH_take (i := 33) (oi := { dst := some 81, op := Go.Op.pick (Go.Operand.tmp 79) (Go.Operand.tmp 80) (Go.Operand.const (Go.Value.bool false)), type := 4, pos := "law.go:19", after := #[{ on := 31, ground := Go.Ground.data }, { on := 32, ground := Go.Ground.data }], guard := none }) (v := ?_) rfl (by kernel_rfl) (by kernel_rfl) (by kernel_rfl) (fun _ _ _ h => h) (Or.inl ⟨by rfl, ?_⟩) (by assumption) ?_
  rotate_left
  · intro w hSw
    go_simp
    try with_reducible rfl
  try simp only [Act.put, List.setIfInBounds_toArray, List.set_cons_zero, List.set_cons_succ]
  refine wpAnyH_take (i := 34) (oi := { dst := some 82, op := Go.Op.move (Go.Operand.tmp 81), type := 4, pos := "law.go:19", after := #[{ on := 33, ground := Go.Ground.data }, { on := 31, ground := Go.Ground.chain }], guard := none }) (v := ?_) rfl (by kernel_rfl) (by kernel_rfl) (by kernel_rfl) (fun _ _ _ h => h) (Or.inl ⟨by rfl, ?_⟩) (by assumption) ?_
  rotate_left
  · intro w hSw
    go_simp
    try with_reducible rfl
  try simp only [Act.put, List.setIfInBounds_toArray, List.set_cons_zero, List.set_cons_succ]
  refine wpAnyH_take (i := 35) (oi := { dst := some 83, op := Go.Op.load 24 (Go.Operand.tmp 12), type := 24, pos := "law.go:19", after := #[{ on := 34, ground := Go.Ground.guard }], guard := some (34, true) }) (v := ?_) rfl (by kernel_rfl) (by kernel_rfl) (by kernel_rfl) (fun _ _ _ h => h) (Or.inl ⟨by rfl, ?_⟩) (by assumption) ?_
  rotate_left
  · intro w hSw
    have k0 := (live_get hSw B12 r4 (by simp)).cell 0 (by omega)
    have k1 := (live_get hSw B12 r4 (by simp)).cell 1 (by omega)
    have k2 := (live_get hSw B12 r4 (by simp)).cell 2 (by omega)
    have k3 := (live_get hSw B12 r4 (by simp)).cell 3 (by omega)
    go_simp
    try with_reducible rfl
  try simp only [Act.put, List.setIfInBounds_toArray, List.set_cons_zero, List.set_cons_succ]
  refine wpAnyH_ready (rs := [36]) (by kernel_rfl) (by simp) ?_
  refine AllReadyH.cons (o := { dst := some 84, op := Go.Op.call { callee := Go.Callee.value (Go.Operand.func 22), args := #[Go.Operand.const (Go.Value.int Go.IntKind.i64 (-15))], argTypes := #[3] }, type := 24, pos := "law.go:19", after := #[{ on := 34, ground := Go.Ground.chain }, { on := 34, ground := Go.Ground.guard }], guard := some (34, true) }) rfl (fun K hK => ?_) AllReadyH.nil
  go_simp
  refine (C11 _).mono ?_
  rintro e W9 ⟨rfl, hBl⟩
  refine hK.out _ _ ?_ (fun hHeld2 => ?_)
  · exact live_below hHeld hBl
  clear hK K hHeld
  have hHeld := hHeld2
  clear hHeld2
  try simp only [Act.put, List.setIfInBounds_toArray, List.set_cons_zero, List.set_cons_succ]
  refine wpAnyH_take (i := 37) (oi := { dst := some 85, op := Go.Op.binOp Go.BinOp.eql 24 (Go.Operand.tmp 83) (Go.Operand.tmp 84) 24, type := 4, pos := "law.go:19", after := #[{ on := 35, ground := Go.Ground.data }, { on := 36, ground := Go.Ground.data }, { on := 34, ground := Go.Ground.guard }], guard := some (34, true) }) (v := ?_) rfl (by kernel_rfl) (by kernel_rfl) (by kernel_rfl) (fun _ _ _ h => h) (Or.inl ⟨by rfl, ?_⟩) (by assumption) ?_
  rotate_left
  · intro w hSw
    go_simp
    try with_reducible rfl
  try simp only [Act.put, List.setIfInBounds_toArray, List.set_cons_zero, List.set_cons_succ]
  refine wpAnyH_take (i := 38) (oi := { dst := some 86, op := Go.Op.pick (Go.Operand.tmp 82) (Go.Operand.tmp 85) (Go.Operand.const (Go.Value.bool false)), type := 4, pos := "law.go:19", after := #[{ on := 34, ground := Go.Ground.data }, { on := 37, ground := Go.Ground.data }], guard := none }) (v := ?_) rfl (by kernel_rfl) (by kernel_rfl) (by kernel_rfl) (fun _ _ _ h => h) (Or.inl ⟨by rfl, ?_⟩) (by assumption) ?_
  rotate_left
  · intro w hSw
    go_simp
    try with_reducible rfl
  try simp only [Act.put, List.setIfInBounds_toArray, List.set_cons_zero, List.set_cons_succ]
  refine wpAnyH_take (i := 39) (oi := { dst := some 87, op := Go.Op.move (Go.Operand.tmp 86), type := 4, pos := "law.go:19", after := #[{ on := 38, ground := Go.Ground.data }, { on := 36, ground := Go.Ground.chain }], guard := none }) (v := ?_) rfl (by kernel_rfl) (by kernel_rfl) (by kernel_rfl) (fun _ _ _ h => h) (Or.inl ⟨by rfl, ?_⟩) (by assumption) ?_
  rotate_left
  · intro w hSw
    go_simp
    try with_reducible rfl
  try simp only [Act.put, List.setIfInBounds_toArray, List.set_cons_zero, List.set_cons_succ]
  refine wpAnyH_take (i := 40) (oi := { dst := some 88, op := Go.Op.load 24 (Go.Operand.tmp 4), type := 24, pos := "law.go:19", after := #[{ on := 39, ground := Go.Ground.guard }], guard := some (39, true) }) (v := ?_) rfl (by kernel_rfl) (by kernel_rfl) (by kernel_rfl) (fun _ _ _ h => h) (Or.inl ⟨by rfl, ?_⟩) (by assumption) ?_
  rotate_left
  · intro w hSw
    have k0 := (live_get hSw B4 r2 (by simp)).cell 0 (by omega)
    have k1 := (live_get hSw B4 r2 (by simp)).cell 1 (by omega)
    have k2 := (live_get hSw B4 r2 (by simp)).cell 2 (by omega)
    have k3 := (live_get hSw B4 r2 (by simp)).cell 3 (by omega)
    go_simp
    try with_reducible rfl
  try simp only [Act.put, List.setIfInBounds_toArray, List.set_cons_zero, List.set_cons_succ]
  refine wpAnyH_take (i := 41) (oi := { dst := some 89, op := Go.Op.load 24 (Go.Operand.tmp 3), type := 24, pos := "law.go:19", after := #[{ on := 39, ground := Go.Ground.guard }], guard := some (39, true) }) (v := ?_) rfl (by kernel_rfl) (by kernel_rfl) (by kernel_rfl) (fun _ _ _ h => h) (Or.inl ⟨by rfl, ?_⟩) (by assumption) ?_
  rotate_left
  · intro w hSw
    have k0 : (w : World).cell? ⟨B2, 0, none⟩ = some (.int .u64 18446744073709551615) := (live_get hSw B2 Wmo (by simp)).cell 0 (by omega)
    have k1 : (w : World).cell? ⟨B2, 1, none⟩ = some (.int .u64 18446744073709551615) := (live_get hSw B2 Wmo (by simp)).cell 1 (by omega)
    have k2 : (w : World).cell? ⟨B2, 2, none⟩ = some (.int .u64 18446744073709551615) := (live_get hSw B2 Wmo (by simp)).cell 2 (by omega)
    have k3 : (w : World).cell? ⟨B2, 3, none⟩ = some (.int .u64 9223372036854775807) := (live_get hSw B2 Wmo (by simp)).cell 3 (by omega)
    go_simp
    try with_reducible rfl
  try simp only [Act.put, List.setIfInBounds_toArray, List.set_cons_zero, List.set_cons_succ]
  refine wpAnyH_ready (rs := [42]) (by kernel_rfl) (by simp) ?_
  refine AllReadyH.cons (o := { dst := some 90, op := Go.Op.call { callee := Go.Callee.value (Go.Operand.func 24), args := #[Go.Operand.tmp 88, Go.Operand.tmp 89], argTypes := #[24, 24] }, type := 3, pos := "law.go:19", after := #[{ on := 40, ground := Go.Ground.data }, { on := 41, ground := Go.Ground.data }, { on := 39, ground := Go.Ground.chain }, { on := 39, ground := Go.Ground.guard }], guard := some (39, true) }) rfl (fun K hK => ?_) AllReadyH.nil
  go_simp
  refine (C12 _).mono ?_
  rintro e W9 ⟨rfl, hBl⟩
  refine hK.out _ _ ?_ (fun hHeld2 => ?_)
  · exact live_below hHeld hBl
  clear hK K hHeld
  have hHeld := hHeld2
  clear hHeld2
  try simp only [Act.put, List.setIfInBounds_toArray, List.set_cons_zero, List.set_cons_succ]
  refine wpAnyH_take (i := 43) (oi := { dst := some 91, op := Go.Op.binOp Go.BinOp.eql 3 (Go.Operand.tmp 90) (Go.Operand.const (Go.Value.int Go.IntKind.i64 (-1))) 3, type := 4, pos := "law.go:19", after := #[{ on := 42, ground := Go.Ground.data }, { on := 39, ground := Go.Ground.guard }], guard := some (39, true) }) (v := ?_) rfl (by kernel_rfl) (by kernel_rfl) (by kernel_rfl) (fun _ _ _ h => h) (Or.inl ⟨by rfl, ?_⟩) (by assumption) ?_
  rotate_left
  · intro w hSw
    go_simp
    try with_reducible rfl
  try simp only [Act.put, List.setIfInBounds_toArray, List.set_cons_zero, List.set_cons_succ]
  refine wpAnyH_take (i := 44) (oi := { dst := some 92, op := Go.Op.pick (Go.Operand.tmp 87) (Go.Operand.tmp 91) (Go.Operand.const (Go.Value.bool false)), type := 4, pos := "law.go:19", after := #[{ on := 39, ground := Go.Ground.data }, { on := 43, ground := Go.Ground.data }], guard := none }) (v := ?_) rfl (by kernel_rfl) (by kernel_rfl) (by kernel_rfl) (fun _ _ _ h => h) (Or.inl ⟨by rfl, ?_⟩) (by assumption) ?_
  rotate_left
  · intro w hSw
    go_simp
    try with_reducible rfl
  try simp only [Act.put, List.setIfInBounds_toArray, List.set_cons_zero, List.set_cons_succ]
  refine wpAnyH_take (i := 45) (oi := { dst := some 93, op := Go.Op.move (Go.Operand.tmp 92), type := 4, pos := "law.go:19", after := #[{ on := 44, ground := Go.Ground.data }, { on := 42, ground := Go.Ground.chain }], guard := none }) (v := ?_) rfl (by kernel_rfl) (by kernel_rfl) (by kernel_rfl) (fun _ _ _ h => h) (Or.inl ⟨by rfl, ?_⟩) (by assumption) ?_
  rotate_left
  · intro w hSw
    go_simp
    try with_reducible rfl
  try simp only [Act.put, List.setIfInBounds_toArray, List.set_cons_zero, List.set_cons_succ]
  refine wpAnyH_take (i := 46) (oi := { dst := some 94, op := Go.Op.load 24 (Go.Operand.tmp 12), type := 24, pos := "law.go:19", after := #[{ on := 45, ground := Go.Ground.guard }], guard := some (45, true) }) (v := ?_) rfl (by kernel_rfl) (by kernel_rfl) (by kernel_rfl) (fun _ _ _ h => h) (Or.inl ⟨by rfl, ?_⟩) (by assumption) ?_
  rotate_left
  · intro w hSw
    have k0 := (live_get hSw B12 r4 (by simp)).cell 0 (by omega)
    have k1 := (live_get hSw B12 r4 (by simp)).cell 1 (by omega)
    have k2 := (live_get hSw B12 r4 (by simp)).cell 2 (by omega)
    have k3 := (live_get hSw B12 r4 (by simp)).cell 3 (by omega)
    go_simp
    try with_reducible rfl
  try simp only [Act.put, List.setIfInBounds_toArray, List.set_cons_zero, List.set_cons_succ]
  refine wpAnyH_ready (rs := [47]) (by kernel_rfl) (by simp) ?_
  refine AllReadyH.cons (o := { dst := some 95, op := Go.Op.call { callee := Go.Callee.value (Go.Operand.func 26), args := #[Go.Operand.tmp 94], argTypes := #[24] }, type := 3, pos := "law.go:19", after := #[{ on := 46, ground := Go.Ground.data }, { on := 45, ground := Go.Ground.chain }, { on := 45, ground := Go.Ground.guard }], guard := some (45, true) }) rfl (fun K hK => ?_) AllReadyH.nil
  go_simp
  refine (C13 _).mono ?_
  rintro e W9 ⟨rfl, hBl⟩
  refine hK.out _ _ ?_ (fun hHeld2 => ?_)
  · exact live_below hHeld hBl
  clear hK K hHeld
  have hHeld := hHeld2
  clear hHeld2
  try simp only [Act.put, List.setIfInBounds_toArray, List.set_cons_zero, List.set_cons_succ]
  refine wpAnyH_take (i := 48) (oi := { dst := some 96, op := Go.Op.binOp Go.BinOp.eql 3 (Go.Operand.tmp 95) (Go.Operand.const (Go.Value.int Go.IntKind.i64 (-1))) 3, type := 4, pos := "law.go:19", after := #[{ on := 47, ground := Go.Ground.data }, { on := 45, ground := Go.Ground.guard }], guard := some (45, true) }) (v := ?_) rfl (by kernel_rfl) (by kernel_rfl) (by kernel_rfl) (fun _ _ _ h => h) (Or.inl ⟨by rfl, ?_⟩) (by assumption) ?_
  rotate_left
  · intro w hSw
    go_simp
    try with_reducible rfl
  try simp only [Act.put, List.setIfInBounds_toArray, List.set_cons_zero, List.set_cons_succ]
  refine wpAnyH_take (i := 49) (oi := { dst := some 97, op := Go.Op.pick (Go.Operand.tmp 93) (Go.Operand.tmp 96) (Go.Operand.const (Go.Value.bool false)), type := 4, pos := "law.go:19", after := #[{ on := 45, ground := Go.Ground.data }, { on := 48, ground := Go.Ground.data }], guard := none }) (v := ?_) rfl (by kernel_rfl) (by kernel_rfl) (by kernel_rfl) (fun _ _ _ h => h) (Or.inl ⟨by rfl, ?_⟩) (by assumption) ?_
  rotate_left
  · intro w hSw
    go_simp
    try with_reducible rfl
  try simp only [Act.put, List.setIfInBounds_toArray, List.set_cons_zero, List.set_cons_succ]
  refine wpAnyH_take (i := 50) (oi := { dst := some 98, op := Go.Op.move (Go.Operand.tmp 97), type := 4, pos := "law.go:19", after := #[{ on := 49, ground := Go.Ground.data }, { on := 47, ground := Go.Ground.chain }], guard := none }) (v := ?_) rfl (by kernel_rfl) (by kernel_rfl) (by kernel_rfl) (fun _ _ _ h => h) (Or.inl ⟨by rfl, ?_⟩) (by assumption) ?_
  rotate_left
  · intro w hSw
    go_simp
    try with_reducible rfl
  try simp only [Act.put, List.setIfInBounds_toArray, List.set_cons_zero, List.set_cons_succ]
  refine wpAnyH_take (i := 51) (oi := { dst := some 99, op := Go.Op.build 24 #[], type := 24, pos := "law.go:19", after := #[{ on := 50, ground := Go.Ground.guard }], guard := some (50, true) }) (v := ?_) rfl (by kernel_rfl) (by kernel_rfl) (by kernel_rfl) (fun _ _ _ h => h) (Or.inl ⟨by rfl, ?_⟩) (by assumption) ?_
  rotate_left
  · intro w hSw
    go_simp
    try with_reducible rfl
  try simp only [Act.put, List.setIfInBounds_toArray, List.set_cons_zero, List.set_cons_succ]
  refine wpAnyH_ready (rs := [52]) (by kernel_rfl) (by simp) ?_
  refine AllReadyH.cons (o := { dst := some 100, op := Go.Op.call { callee := Go.Callee.value (Go.Operand.func 26), args := #[Go.Operand.tmp 99], argTypes := #[24] }, type := 3, pos := "law.go:19", after := #[{ on := 51, ground := Go.Ground.data }, { on := 50, ground := Go.Ground.chain }, { on := 50, ground := Go.Ground.guard }], guard := some (50, true) }) rfl (fun K hK => ?_) AllReadyH.nil
  go_simp
  refine (C14 _).mono ?_
  rintro e W9 ⟨rfl, hBl⟩
  refine hK.out _ _ ?_ (fun hHeld2 => ?_)
  · exact live_below hHeld hBl
  clear hK K hHeld
  have hHeld := hHeld2
  clear hHeld2
  try simp only [Act.put, List.setIfInBounds_toArray, List.set_cons_zero, List.set_cons_succ]
  refine wpAnyH_take (i := 53) (oi := { dst := some 101, op := Go.Op.binOp Go.BinOp.eql 3 (Go.Operand.tmp 100) (Go.Operand.const (Go.Value.int Go.IntKind.i64 0)) 3, type := 4, pos := "law.go:19", after := #[{ on := 52, ground := Go.Ground.data }, { on := 50, ground := Go.Ground.guard }], guard := some (50, true) }) (v := ?_) rfl (by kernel_rfl) (by kernel_rfl) (by kernel_rfl) (fun _ _ _ h => h) (Or.inl ⟨by rfl, ?_⟩) (by assumption) ?_
  rotate_left
  · intro w hSw
    go_simp
    try with_reducible rfl
  try simp only [Act.put, List.setIfInBounds_toArray, List.set_cons_zero, List.set_cons_succ]
  refine wpAnyH_take (i := 54) (oi := { dst := some 102, op := Go.Op.pick (Go.Operand.tmp 98) (Go.Operand.tmp 101) (Go.Operand.const (Go.Value.bool false)), type := 4, pos := "law.go:19", after := #[{ on := 50, ground := Go.Ground.data }, { on := 53, ground := Go.Ground.data }], guard := none }) (v := ?_) rfl (by kernel_rfl) (by kernel_rfl) (by kernel_rfl) (fun _ _ _ h => h) (Or.inl ⟨by rfl, ?_⟩) (by assumption) ?_
  rotate_left
  · intro w hSw
    go_simp
    try with_reducible rfl
  try simp only [Act.put, List.setIfInBounds_toArray, List.set_cons_zero, List.set_cons_succ]
  refine wpAnyH_take (i := 55) (oi := { dst := some 0, op := Go.Op.assign (Go.Operand.tmp 102), type := 4, pos := "law.go:19", after := #[{ on := 54, ground := Go.Ground.data }, { on := 52, ground := Go.Ground.chain }, { on := 0, ground := Go.Ground.phase }, { on := 1, ground := Go.Ground.phase }, { on := 2, ground := Go.Ground.phase }, { on := 3, ground := Go.Ground.phase }, { on := 4, ground := Go.Ground.phase }, { on := 5, ground := Go.Ground.phase }, { on := 6, ground := Go.Ground.phase }, { on := 7, ground := Go.Ground.phase }, { on := 8, ground := Go.Ground.phase }, { on := 9, ground := Go.Ground.phase }, { on := 10, ground := Go.Ground.phase }, { on := 11, ground := Go.Ground.phase }, { on := 12, ground := Go.Ground.phase }, { on := 13, ground := Go.Ground.phase }, { on := 14, ground := Go.Ground.phase }, { on := 15, ground := Go.Ground.phase }, { on := 16, ground := Go.Ground.phase }, { on := 17, ground := Go.Ground.phase }, { on := 18, ground := Go.Ground.phase }, { on := 19, ground := Go.Ground.phase }, { on := 20, ground := Go.Ground.phase }, { on := 21, ground := Go.Ground.phase }, { on := 22, ground := Go.Ground.phase }, { on := 23, ground := Go.Ground.phase }, { on := 24, ground := Go.Ground.phase }, { on := 25, ground := Go.Ground.phase }, { on := 26, ground := Go.Ground.phase }, { on := 27, ground := Go.Ground.phase }, { on := 28, ground := Go.Ground.phase }, { on := 29, ground := Go.Ground.phase }, { on := 30, ground := Go.Ground.phase }, { on := 31, ground := Go.Ground.phase }, { on := 32, ground := Go.Ground.phase }, { on := 33, ground := Go.Ground.phase }, { on := 34, ground := Go.Ground.phase }, { on := 35, ground := Go.Ground.phase }, { on := 36, ground := Go.Ground.phase }, { on := 37, ground := Go.Ground.phase }, { on := 38, ground := Go.Ground.phase }, { on := 39, ground := Go.Ground.phase }, { on := 40, ground := Go.Ground.phase }, { on := 41, ground := Go.Ground.phase }, { on := 42, ground := Go.Ground.phase }, { on := 43, ground := Go.Ground.phase }, { on := 44, ground := Go.Ground.phase }, { on := 45, ground := Go.Ground.phase }, { on := 46, ground := Go.Ground.phase }, { on := 47, ground := Go.Ground.phase }, { on := 48, ground := Go.Ground.phase }, { on := 49, ground := Go.Ground.phase }, { on := 50, ground := Go.Ground.phase }, { on := 51, ground := Go.Ground.phase }, { on := 52, ground := Go.Ground.phase }, { on := 53, ground := Go.Ground.phase }, { on := 54, ground := Go.Ground.phase }], guard := none }) (v := ?_) rfl (by kernel_rfl) (by kernel_rfl) (by kernel_rfl) (fun _ _ _ h => h) (Or.inl ⟨by rfl, ?_⟩) (by assumption) ?_
  rotate_left
  · intro w hSw
    go_simp
    try with_reducible rfl
  try simp only [Act.put, List.setIfInBounds_toArray, List.set_cons_zero, List.set_cons_succ]
  refine wpAnyH_done (by kernel_rfl) ?_ _
  go_wp2
  go_ret
  exact ⟨rfl, hHeld.2⟩

end Go.Proofs.Ytecgclkjglkkbaa
