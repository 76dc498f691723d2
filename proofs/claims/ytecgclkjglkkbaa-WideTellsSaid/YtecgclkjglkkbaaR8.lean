/- Contracts of the document's own functions Cmp and Sign, for every input. -/
import Derived.Test.YtecgclkjglkkbaaR7
namespace Go.Proofs.Ytecgclkjglkkbaa
open Go Go.RowKit Go.Shelf
set_option linter.unusedSimpArgs false
set_option linter.unusedVariables false

theorem lv_drewN {w W : World} {l : List (Nat × Obj)} (h : Lv w l W) (n : Nat) : Lv w l (W.drewN n) := ⟨h.1, h.2.1, h.2.2.1, below_drewN h.2.2.2 n⟩
theorem val_at {a b : Nat → Nat} (ha : Wds a) (hb : Wds b) {n : Nat} (hn : n < 4) (he : ∀ j : Nat, (n : Int) < j → j < 4 → a j = b j) (h : a n < b n) : val a < val b := by
  have a0 := ha 0; have a1 := ha 1; have a2 := ha 2; have a3 := ha 3
  have b0 := hb 0; have b1 := hb 1; have b2 := hb 2; have b3 := hb 3
  have e1 := he 1; have e2 := he 2; have e3 := he 3
  unfold val
  have : n = 0 ∨ n = 1 ∨ n = 2 ∨ n = 3 := by omega
  rcases this with rfl | rfl | rfl | rfl
  · have := e1 (by omega) (by omega); have := e2 (by omega) (by omega); have := e3 (by omega) (by omega); omega
  · have := e2 (by omega) (by omega); have := e3 (by omega) (by omega); omega
  · have := e3 (by omega) (by omega); omega
  · omega
theorem cmp_less {a b : Nat → Nat} (ha : Wds a) (hb : Wds b) (hl : lowB a = lowB b) (h : val a < val b) : cmpR a b = -1 := by
  rw [cmpR_z ha hb]
  unfold cmpZ sval
  rw [hl]
  generalize val a = x at *
  generalize val b = y at *
  split <;> rw [if_pos (by omega)]
theorem cmp_more {a b : Nat → Nat} (ha : Wds a) (hb : Wds b) (hl : lowB a = lowB b) (h : val b < val a) : cmpR a b = 1 := by
  rw [cmpR_z ha hb]
  unfold cmpZ sval
  rw [hl]
  generalize val a = x at *
  generalize val b = y at *
  split <;> rw [if_neg (by omega), if_pos (by omega)]
theorem cmp_same {a b : Nat → Nat} (ha : Wds a) (hb : Wds b) (h : ∀ j : Nat, (-1 : Int) < j → j < 4 → a j = b j) : cmpR a b = 0 := by
  have e0 := h 0 (by omega) (by omega); have e1 := h 1 (by omega) (by omega); have e2 := h 2 (by omega) (by omega); have e3 := h 3 (by omega) (by omega)
  have hv : val a = val b := by unfold val; rw [e0, e1, e2, e3]
  rw [cmpR_z ha hb]
  unfold cmpZ sval
  rw [lowB_val ha, lowB_val hb, hv, if_neg (Int.lt_irrefl _), if_neg (Int.lt_irrefl _)]
theorem cmp_sign {a b : Nat → Nat} (ha : Wds a) (hb : Wds b) (hl : lowB a = true) (hl2 : lowB b = false) : cmpR a b = -1 ∧ cmpR b a = 1 := by
  have h1 := val_lt ha
  rw [cmpR_z ha hb, cmpR_z hb ha]
  unfold cmpZ sval
  rw [hl, hl2]
  generalize val a = x at *
  generalize val b = y at *
  simp only [if_true, Bool.false_eq_true, if_false]
  exact ⟨by rw [if_pos (by omega)], by rw [if_neg (by omega), if_pos (by omega)]⟩

def o25_1_0 : Oper := { dst := some 6, op := Go.Op.load 24 (Go.Operand.tmp 2), type := 24, pos := "ref.go:123", after := #[], guard := none }
def o25_1_1 : Oper := { dst := some 7, op := Go.Op.call { callee := Go.Callee.value (Go.Operand.func 52), args := #[Go.Operand.tmp 6], argTypes := #[24] }, type := 4, pos := "ref.go:123", after := #[{ on := 0, ground := Go.Ground.data }], guard := none }
def o25_1_2 : Oper := { dst := some 8, op := Go.Op.load 24 (Go.Operand.tmp 3), type := 24, pos := "ref.go:123", after := #[], guard := none }
def o25_1_3 : Oper := { dst := some 9, op := Go.Op.call { callee := Go.Callee.value (Go.Operand.func 52), args := #[Go.Operand.tmp 8], argTypes := #[24] }, type := 4, pos := "ref.go:123", after := #[{ on := 2, ground := Go.Ground.data }, { on := 1, ground := Go.Ground.chain }], guard := none }
def o25_1_4 : Oper := { dst := some 10, op := Go.Op.binOp Go.BinOp.neq 4 (Go.Operand.tmp 7) (Go.Operand.tmp 9) 4, type := 4, pos := "ref.go:123", after := #[{ on := 1, ground := Go.Ground.data }, { on := 3, ground := Go.Ground.data }], guard := none }
attribute [local go_sem] o25_1_0 o25_1_1 o25_1_2 o25_1_3 o25_1_4
set_option maxRecDepth 100000 in
set_option maxHeartbeats 4000000 in
theorem refcmp_00 (a b : Nat → Nat) (c : Int) (ha : Wds a) (hb : Wds b) (h1 : lowB a = false) (h2 : lowB b = false) (C : cmpR a b = c)  (w : World) :
    Calls Try.prog 25 #[.agg #[.int .u64 (a 0), .int .u64 (a 1), .int .u64 (a 2), .int .u64 (a 3)], .agg #[.int .u64 (b 0), .int .u64 (b 1), .int .u64 (b 2), .int .u64 (b 3)]] w fun ee w' => ee = .returned (.int .i64 c) ∧ Below w.heap.size w w' := by
  have Xh1 := Lib.hid h1
  have Xh2 := Lib.hid h2
  have XC := Lib.hid C
  clear h1 h2 C
  have hL := lv_nil w
  go_enter Try.func25, Try.ntmps25
  go_wp2_with fail
  obtain ⟨V1, B2, hV3, hB4, hL⟩ := lv_grow hL (Obj.cells #[.int .u64 (a 0), .int .u64 (a 1), .int .u64 (a 2), .int .u64 (a 3)] 24)
  rw [hV3]
  try rw [hB4]
  obtain ⟨V5, B6, hV7, hB8, hL⟩ := lv_grow hL (Obj.cells #[.int .u64 (b 0), .int .u64 (b 1), .int .u64 (b 2), .int .u64 (b 3)] 24)
  rw [hV7]
  have hs9 : B2 + 1 = B6 := by rw [← hB8, ← hV3, World.size_alloc, hB4]
  try rw [hs9]
  clear hs9
  clear hV3 hB4 hV7 hB8
  refine wp_region_held_drew (S := fun W' => Lv w [(B6, Obj.cells #[.int .u64 (b 0), .int .u64 (b 1), .int .u64 (b 2), .int .u64 (b 3)] 24 (0, 0)), (B2, Obj.cells #[.int .u64 (a 0), .int .u64 (a 1), .int .u64 (a 2), .int .u64 (a 3)] 24 (0, 0))] W') (by kernel_rfl) (lv_drew (lv_sub (sk (sk sn)) hL)) (fun hHeld => ?_)
  replace hL := lv_drew hL
  obtain ⟨D10, hD11⟩ : ∃ W0, World.drew V5 = W0 := ⟨_, rfl⟩
  rw [hD11] at hHeld hL ⊢
  clear hD11
  refine tk 0 o25_1_0 (v := ?_) ?_ ?_
  rotate_left
  · intro w hSw
    obtain ⟨k0, k1, k2, k3⟩ := lv_cells4 hSw lm1
    delta o25_1_0
    go_simp
    try with_reducible rfl
  try simp only [Act.put, o25_1_0, List.setIfInBounds_toArray, List.set_cons_zero, List.set_cons_succ]
  refine tk 2 o25_1_2 (v := ?_) ?_ ?_
  rotate_left
  · intro w hSw
    obtain ⟨k0, k1, k2, k3⟩ := lv_cells4 hSw lm0
    delta o25_1_2
    go_simp
    try with_reducible rfl
  try simp only [Act.put, o25_1_2, List.setIfInBounds_toArray, List.set_cons_zero, List.set_cons_succ]
  refine rd1 1 o25_1_1 (fun K hK => ?_)
  delta o25_1_1
  go_simp
  refine (low_c ha Xh1.out _).mono ?_
  rintro e W12 ⟨rfl, hBl⟩
  replace hL := lv_below hL hBl
  clear hBl
  refine hK.out _ _ (lv_sub (sk (sk sn)) hL) (fun hHeld2 => ?_)
  clear hK K hHeld
  have hHeld := hHeld2
  clear hHeld2
  try simp only [Act.put, o25_1_1, List.setIfInBounds_toArray, List.set_cons_zero, List.set_cons_succ]
  refine rd1 3 o25_1_3 (fun K hK => ?_)
  delta o25_1_3
  go_simp
  refine (low_c hb Xh2.out _).mono ?_
  rintro e W13 ⟨rfl, hBl⟩
  replace hL := lv_below hL hBl
  clear hBl
  refine hK.out _ _ (lv_sub (sk (sk sn)) hL) (fun hHeld2 => ?_)
  clear hK K hHeld
  have hHeld := hHeld2
  clear hHeld2
  try simp only [Act.put, o25_1_3, List.setIfInBounds_toArray, List.set_cons_zero, List.set_cons_succ]
  refine tk 4 o25_1_4 (v := ?_) ?_ ?_
  rotate_left
  · intro w hSw
    delta o25_1_4
    go_simp
    try with_reducible rfl
  try simp only [Act.put, o25_1_4, List.setIfInBounds_toArray, List.set_cons_zero, List.set_cons_succ]
  refine wpAnyH_done (by kernel_rfl) ?_ _
  clear hHeld
  go_wp2_with fail
  go_loopw [5] (fun v5 wr => ∃ z : Int, -1 ≤ z ∧ z ≤ 3 ∧ v5 = .int .i64 z ∧ Hid (∀ j : Nat, z < j → j < 4 → a j = b j) ∧ Lv w [(B6, Obj.cells #[.int .u64 (b 0), .int .u64 (b 1), .int .u64 (b 2), .int .u64 (b 3)] 24 (0, 0)), (B2, Obj.cells #[.int .u64 (a 0), .int .u64 (a 1), .int .u64 (a 2), .int .u64 (a 3)] 24 (0, 0))] wr) (fun v5 _ => (intOf v5 + 1).toNat)
  case atStart => exact ⟨3, by omega, by omega, rfl, Lib.hid (fun j h1 h2 => absurd h1 (by omega)), hL⟩
  case round =>
    clear hL
    obtain ⟨z, hz1, hz2, rfl, HE, hL⟩ := hrel
    by_cases hz : 0 ≤ z
    · obtain ⟨n, rfl⟩ := Int.eq_ofNat_of_zero_le hz
      have hn : n < 4 := by omega
      have ca := (lv_at4 hL lm1).cell n hn
      have cb := (lv_at4 hL lm0).cell n hn
      have XV := Lib.hid (fun h => val_at ha hb hn HE.out h)
      have XW := Lib.hid (fun h => val_at hb ha hn (fun j h1 h2 => (HE.out j h1 h2).symm) h)
      obtain ⟨x, hx⟩ : ∃ x, a n = x := ⟨_, rfl⟩
      obtain ⟨y, hy⟩ : ∃ y, b n = y := ⟨_, rfl⟩
      rw [hx] at ca XV XW
      rw [hy] at cb XV XW
      have HX := Lib.hid hx
      have HY := Lib.hid hy
      clear hx hy
      rcases Nat.lt_trichotomy x y with hlt | rfl | hgt
      · have HC := Lib.hid (XC.out.symm.trans (cmp_less ha hb (Xh1.out.trans Xh2.out.symm) (XV.out hlt)))
        go_wp2
        go_quiet (fail)
        go_wp2
        go_ret
        exact ⟨by (rw [HC.out]; try rfl), below_drewN hL.2.2.2 _⟩
      · go_wp2
        go_quiet (fail)
        go_wp2
        go_quiet (fail)
        go_wp2
        go_roundw
        case rel =>
          refine ⟨(n : Int) - 1, by omega, by omega, rfl, Lib.hid (fun j h1 h2 => ?_), lv_drewN hL _⟩
          by_cases hj : j = n
          · subst hj; exact HX.out.trans HY.out.symm
          · exact HE.out j (by omega) h2
        case measure => simp [intOf]
      · have HC := Lib.hid (XC.out.symm.trans (cmp_more ha hb (Xh1.out.trans Xh2.out.symm) (XW.out hgt)))
        go_wp2
        go_quiet (fail)
        go_wp2
        go_quiet (fail)
        go_wp2
        go_ret
        exact ⟨by (rw [HC.out]; try rfl), below_drewN (below_drewN hL.2.2.2 _) _⟩
    · obtain rfl : z = -1 := by omega
      have HC := Lib.hid (XC.out.symm.trans (cmp_same ha hb HE.out))
      go_wp2
      go_ret
      exact ⟨by (rw [HC.out]; try rfl), hL.2.2.2⟩

set_option maxRecDepth 100000 in
set_option maxHeartbeats 4000000 in
theorem refcmp_01 (a b : Nat → Nat) (ha : Wds a) (hb : Wds b) (h1 : lowB a = false) (h2 : lowB b = true)  (w : World) :
    Calls Try.prog 25 #[.agg #[.int .u64 (a 0), .int .u64 (a 1), .int .u64 (a 2), .int .u64 (a 3)], .agg #[.int .u64 (b 0), .int .u64 (b 1), .int .u64 (b 2), .int .u64 (b 3)]] w fun ee w' => ee = .returned (.int .i64 1) ∧ Below w.heap.size w w' := by
  have Xh1 := Lib.hid h1
  have Xh2 := Lib.hid h2
  clear h1 h2
  have hL := lv_nil w
  go_enter Try.func25, Try.ntmps25
  go_wp2_with fail
  obtain ⟨V1, B2, hV3, hB4, hL⟩ := lv_grow hL (Obj.cells #[.int .u64 (a 0), .int .u64 (a 1), .int .u64 (a 2), .int .u64 (a 3)] 24)
  rw [hV3]
  try rw [hB4]
  obtain ⟨V5, B6, hV7, hB8, hL⟩ := lv_grow hL (Obj.cells #[.int .u64 (b 0), .int .u64 (b 1), .int .u64 (b 2), .int .u64 (b 3)] 24)
  rw [hV7]
  have hs9 : B2 + 1 = B6 := by rw [← hB8, ← hV3, World.size_alloc, hB4]
  try rw [hs9]
  clear hs9
  clear hV3 hB4 hV7 hB8
  refine wp_region_held_drew (S := fun W' => Lv w [(B6, Obj.cells #[.int .u64 (b 0), .int .u64 (b 1), .int .u64 (b 2), .int .u64 (b 3)] 24 (0, 0)), (B2, Obj.cells #[.int .u64 (a 0), .int .u64 (a 1), .int .u64 (a 2), .int .u64 (a 3)] 24 (0, 0))] W') (by kernel_rfl) (lv_drew (lv_sub (sk (sk sn)) hL)) (fun hHeld => ?_)
  replace hL := lv_drew hL
  obtain ⟨D10, hD11⟩ : ∃ W0, World.drew V5 = W0 := ⟨_, rfl⟩
  rw [hD11] at hHeld hL ⊢
  clear hD11
  refine tk 0 o25_1_0 (v := ?_) ?_ ?_
  rotate_left
  · intro w hSw
    obtain ⟨k0, k1, k2, k3⟩ := lv_cells4 hSw lm1
    delta o25_1_0
    go_simp
    try with_reducible rfl
  try simp only [Act.put, o25_1_0, List.setIfInBounds_toArray, List.set_cons_zero, List.set_cons_succ]
  refine tk 2 o25_1_2 (v := ?_) ?_ ?_
  rotate_left
  · intro w hSw
    obtain ⟨k0, k1, k2, k3⟩ := lv_cells4 hSw lm0
    delta o25_1_2
    go_simp
    try with_reducible rfl
  try simp only [Act.put, o25_1_2, List.setIfInBounds_toArray, List.set_cons_zero, List.set_cons_succ]
  refine rd1 1 o25_1_1 (fun K hK => ?_)
  delta o25_1_1
  go_simp
  refine (low_c ha Xh1.out _).mono ?_
  rintro e W12 ⟨rfl, hBl⟩
  replace hL := lv_below hL hBl
  clear hBl
  refine hK.out _ _ (lv_sub (sk (sk sn)) hL) (fun hHeld2 => ?_)
  clear hK K hHeld
  have hHeld := hHeld2
  clear hHeld2
  try simp only [Act.put, o25_1_1, List.setIfInBounds_toArray, List.set_cons_zero, List.set_cons_succ]
  refine rd1 3 o25_1_3 (fun K hK => ?_)
  delta o25_1_3
  go_simp
  refine (low_c hb Xh2.out _).mono ?_
  rintro e W13 ⟨rfl, hBl⟩
  replace hL := lv_below hL hBl
  clear hBl
  refine hK.out _ _ (lv_sub (sk (sk sn)) hL) (fun hHeld2 => ?_)
  clear hK K hHeld
  have hHeld := hHeld2
  clear hHeld2
  try simp only [Act.put, o25_1_3, List.setIfInBounds_toArray, List.set_cons_zero, List.set_cons_succ]
  refine tk 4 o25_1_4 (v := ?_) ?_ ?_
  rotate_left
  · intro w hSw
    delta o25_1_4
    go_simp
    try with_reducible rfl
  try simp only [Act.put, o25_1_4, List.setIfInBounds_toArray, List.set_cons_zero, List.set_cons_succ]
  refine wpAnyH_done (by kernel_rfl) ?_ _
  clear hHeld
  obtain ⟨q14, q15, q16, q17⟩ := lv_cells4 hL lm1
  go_wp2_with fail
  clear q14 q15 q16 q17
  refine (low_c ha Xh1.out _).mono ?_
  rintro e W18 ⟨rfl, hB⟩
  replace hL := lv_below hL hB
  clear hB
  go_wp2_with fail
  go_ret
  exact ⟨rfl, hL.2.2.2⟩

set_option maxRecDepth 100000 in
set_option maxHeartbeats 4000000 in
theorem refcmp_10 (a b : Nat → Nat) (ha : Wds a) (hb : Wds b) (h1 : lowB a = true) (h2 : lowB b = false)  (w : World) :
    Calls Try.prog 25 #[.agg #[.int .u64 (a 0), .int .u64 (a 1), .int .u64 (a 2), .int .u64 (a 3)], .agg #[.int .u64 (b 0), .int .u64 (b 1), .int .u64 (b 2), .int .u64 (b 3)]] w fun ee w' => ee = .returned (.int .i64 (-1)) ∧ Below w.heap.size w w' := by
  have Xh1 := Lib.hid h1
  have Xh2 := Lib.hid h2
  clear h1 h2
  have hL := lv_nil w
  go_enter Try.func25, Try.ntmps25
  go_wp2_with fail
  obtain ⟨V1, B2, hV3, hB4, hL⟩ := lv_grow hL (Obj.cells #[.int .u64 (a 0), .int .u64 (a 1), .int .u64 (a 2), .int .u64 (a 3)] 24)
  rw [hV3]
  try rw [hB4]
  obtain ⟨V5, B6, hV7, hB8, hL⟩ := lv_grow hL (Obj.cells #[.int .u64 (b 0), .int .u64 (b 1), .int .u64 (b 2), .int .u64 (b 3)] 24)
  rw [hV7]
  have hs9 : B2 + 1 = B6 := by rw [← hB8, ← hV3, World.size_alloc, hB4]
  try rw [hs9]
  clear hs9
  clear hV3 hB4 hV7 hB8
  refine wp_region_held_drew (S := fun W' => Lv w [(B6, Obj.cells #[.int .u64 (b 0), .int .u64 (b 1), .int .u64 (b 2), .int .u64 (b 3)] 24 (0, 0)), (B2, Obj.cells #[.int .u64 (a 0), .int .u64 (a 1), .int .u64 (a 2), .int .u64 (a 3)] 24 (0, 0))] W') (by kernel_rfl) (lv_drew (lv_sub (sk (sk sn)) hL)) (fun hHeld => ?_)
  replace hL := lv_drew hL
  obtain ⟨D10, hD11⟩ : ∃ W0, World.drew V5 = W0 := ⟨_, rfl⟩
  rw [hD11] at hHeld hL ⊢
  clear hD11
  refine tk 0 o25_1_0 (v := ?_) ?_ ?_
  rotate_left
  · intro w hSw
    obtain ⟨k0, k1, k2, k3⟩ := lv_cells4 hSw lm1
    delta o25_1_0
    go_simp
    try with_reducible rfl
  try simp only [Act.put, o25_1_0, List.setIfInBounds_toArray, List.set_cons_zero, List.set_cons_succ]
  refine tk 2 o25_1_2 (v := ?_) ?_ ?_
  rotate_left
  · intro w hSw
    obtain ⟨k0, k1, k2, k3⟩ := lv_cells4 hSw lm0
    delta o25_1_2
    go_simp
    try with_reducible rfl
  try simp only [Act.put, o25_1_2, List.setIfInBounds_toArray, List.set_cons_zero, List.set_cons_succ]
  refine rd1 1 o25_1_1 (fun K hK => ?_)
  delta o25_1_1
  go_simp
  refine (low_c ha Xh1.out _).mono ?_
  rintro e W12 ⟨rfl, hBl⟩
  replace hL := lv_below hL hBl
  clear hBl
  refine hK.out _ _ (lv_sub (sk (sk sn)) hL) (fun hHeld2 => ?_)
  clear hK K hHeld
  have hHeld := hHeld2
  clear hHeld2
  try simp only [Act.put, o25_1_1, List.setIfInBounds_toArray, List.set_cons_zero, List.set_cons_succ]
  refine rd1 3 o25_1_3 (fun K hK => ?_)
  delta o25_1_3
  go_simp
  refine (low_c hb Xh2.out _).mono ?_
  rintro e W13 ⟨rfl, hBl⟩
  replace hL := lv_below hL hBl
  clear hBl
  refine hK.out _ _ (lv_sub (sk (sk sn)) hL) (fun hHeld2 => ?_)
  clear hK K hHeld
  have hHeld := hHeld2
  clear hHeld2
  try simp only [Act.put, o25_1_3, List.setIfInBounds_toArray, List.set_cons_zero, List.set_cons_succ]
  refine tk 4 o25_1_4 (v := ?_) ?_ ?_
  rotate_left
  · intro w hSw
    delta o25_1_4
    go_simp
    try with_reducible rfl
  try simp only [Act.put, o25_1_4, List.setIfInBounds_toArray, List.set_cons_zero, List.set_cons_succ]
  refine wpAnyH_done (by kernel_rfl) ?_ _
  clear hHeld
  obtain ⟨q14, q15, q16, q17⟩ := lv_cells4 hL lm1
  go_wp2_with fail
  clear q14 q15 q16 q17
  refine (low_c ha Xh1.out _).mono ?_
  rintro e W18 ⟨rfl, hB⟩
  replace hL := lv_below hL hB
  clear hB
  go_wp2_with fail
  go_ret
  exact ⟨rfl, hL.2.2.2⟩

set_option maxRecDepth 100000 in
set_option maxHeartbeats 4000000 in
theorem refcmp_11 (a b : Nat → Nat) (c : Int) (ha : Wds a) (hb : Wds b) (h1 : lowB a = true) (h2 : lowB b = true) (C : cmpR a b = c)  (w : World) :
    Calls Try.prog 25 #[.agg #[.int .u64 (a 0), .int .u64 (a 1), .int .u64 (a 2), .int .u64 (a 3)], .agg #[.int .u64 (b 0), .int .u64 (b 1), .int .u64 (b 2), .int .u64 (b 3)]] w fun ee w' => ee = .returned (.int .i64 c) ∧ Below w.heap.size w w' := by
  have Xh1 := Lib.hid h1
  have Xh2 := Lib.hid h2
  have XC := Lib.hid C
  clear h1 h2 C
  have hL := lv_nil w
  go_enter Try.func25, Try.ntmps25
  go_wp2_with fail
  obtain ⟨V1, B2, hV3, hB4, hL⟩ := lv_grow hL (Obj.cells #[.int .u64 (a 0), .int .u64 (a 1), .int .u64 (a 2), .int .u64 (a 3)] 24)
  rw [hV3]
  try rw [hB4]
  obtain ⟨V5, B6, hV7, hB8, hL⟩ := lv_grow hL (Obj.cells #[.int .u64 (b 0), .int .u64 (b 1), .int .u64 (b 2), .int .u64 (b 3)] 24)
  rw [hV7]
  have hs9 : B2 + 1 = B6 := by rw [← hB8, ← hV3, World.size_alloc, hB4]
  try rw [hs9]
  clear hs9
  clear hV3 hB4 hV7 hB8
  refine wp_region_held_drew (S := fun W' => Lv w [(B6, Obj.cells #[.int .u64 (b 0), .int .u64 (b 1), .int .u64 (b 2), .int .u64 (b 3)] 24 (0, 0)), (B2, Obj.cells #[.int .u64 (a 0), .int .u64 (a 1), .int .u64 (a 2), .int .u64 (a 3)] 24 (0, 0))] W') (by kernel_rfl) (lv_drew (lv_sub (sk (sk sn)) hL)) (fun hHeld => ?_)
  replace hL := lv_drew hL
  obtain ⟨D10, hD11⟩ : ∃ W0, World.drew V5 = W0 := ⟨_, rfl⟩
  rw [hD11] at hHeld hL ⊢
  clear hD11
  refine tk 0 o25_1_0 (v := ?_) ?_ ?_
  rotate_left
  · intro w hSw
    obtain ⟨k0, k1, k2, k3⟩ := lv_cells4 hSw lm1
    delta o25_1_0
    go_simp
    try with_reducible rfl
  try simp only [Act.put, o25_1_0, List.setIfInBounds_toArray, List.set_cons_zero, List.set_cons_succ]
  refine tk 2 o25_1_2 (v := ?_) ?_ ?_
  rotate_left
  · intro w hSw
    obtain ⟨k0, k1, k2, k3⟩ := lv_cells4 hSw lm0
    delta o25_1_2
    go_simp
    try with_reducible rfl
  try simp only [Act.put, o25_1_2, List.setIfInBounds_toArray, List.set_cons_zero, List.set_cons_succ]
  refine rd1 1 o25_1_1 (fun K hK => ?_)
  delta o25_1_1
  go_simp
  refine (low_c ha Xh1.out _).mono ?_
  rintro e W12 ⟨rfl, hBl⟩
  replace hL := lv_below hL hBl
  clear hBl
  refine hK.out _ _ (lv_sub (sk (sk sn)) hL) (fun hHeld2 => ?_)
  clear hK K hHeld
  have hHeld := hHeld2
  clear hHeld2
  try simp only [Act.put, o25_1_1, List.setIfInBounds_toArray, List.set_cons_zero, List.set_cons_succ]
  refine rd1 3 o25_1_3 (fun K hK => ?_)
  delta o25_1_3
  go_simp
  refine (low_c hb Xh2.out _).mono ?_
  rintro e W13 ⟨rfl, hBl⟩
  replace hL := lv_below hL hBl
  clear hBl
  refine hK.out _ _ (lv_sub (sk (sk sn)) hL) (fun hHeld2 => ?_)
  clear hK K hHeld
  have hHeld := hHeld2
  clear hHeld2
  try simp only [Act.put, o25_1_3, List.setIfInBounds_toArray, List.set_cons_zero, List.set_cons_succ]
  refine tk 4 o25_1_4 (v := ?_) ?_ ?_
  rotate_left
  · intro w hSw
    delta o25_1_4
    go_simp
    try with_reducible rfl
  try simp only [Act.put, o25_1_4, List.setIfInBounds_toArray, List.set_cons_zero, List.set_cons_succ]
  refine wpAnyH_done (by kernel_rfl) ?_ _
  clear hHeld
  go_wp2_with fail
  go_loopw [5] (fun v5 wr => ∃ z : Int, -1 ≤ z ∧ z ≤ 3 ∧ v5 = .int .i64 z ∧ Hid (∀ j : Nat, z < j → j < 4 → a j = b j) ∧ Lv w [(B6, Obj.cells #[.int .u64 (b 0), .int .u64 (b 1), .int .u64 (b 2), .int .u64 (b 3)] 24 (0, 0)), (B2, Obj.cells #[.int .u64 (a 0), .int .u64 (a 1), .int .u64 (a 2), .int .u64 (a 3)] 24 (0, 0))] wr) (fun v5 _ => (intOf v5 + 1).toNat)
  case atStart => exact ⟨3, by omega, by omega, rfl, Lib.hid (fun j h1 h2 => absurd h1 (by omega)), hL⟩
  case round =>
    clear hL
    obtain ⟨z, hz1, hz2, rfl, HE, hL⟩ := hrel
    by_cases hz : 0 ≤ z
    · obtain ⟨n, rfl⟩ := Int.eq_ofNat_of_zero_le hz
      have hn : n < 4 := by omega
      have ca := (lv_at4 hL lm1).cell n hn
      have cb := (lv_at4 hL lm0).cell n hn
      have XV := Lib.hid (fun h => val_at ha hb hn HE.out h)
      have XW := Lib.hid (fun h => val_at hb ha hn (fun j h1 h2 => (HE.out j h1 h2).symm) h)
      obtain ⟨x, hx⟩ : ∃ x, a n = x := ⟨_, rfl⟩
      obtain ⟨y, hy⟩ : ∃ y, b n = y := ⟨_, rfl⟩
      rw [hx] at ca XV XW
      rw [hy] at cb XV XW
      have HX := Lib.hid hx
      have HY := Lib.hid hy
      clear hx hy
      rcases Nat.lt_trichotomy x y with hlt | rfl | hgt
      · have HC := Lib.hid (XC.out.symm.trans (cmp_less ha hb (Xh1.out.trans Xh2.out.symm) (XV.out hlt)))
        go_wp2
        go_quiet (fail)
        go_wp2
        go_ret
        exact ⟨by (rw [HC.out]; try rfl), below_drewN hL.2.2.2 _⟩
      · go_wp2
        go_quiet (fail)
        go_wp2
        go_quiet (fail)
        go_wp2
        go_roundw
        case rel =>
          refine ⟨(n : Int) - 1, by omega, by omega, rfl, Lib.hid (fun j h1 h2 => ?_), lv_drewN hL _⟩
          by_cases hj : j = n
          · subst hj; exact HX.out.trans HY.out.symm
          · exact HE.out j (by omega) h2
        case measure => simp [intOf]
      · have HC := Lib.hid (XC.out.symm.trans (cmp_more ha hb (Xh1.out.trans Xh2.out.symm) (XW.out hgt)))
        go_wp2
        go_quiet (fail)
        go_wp2
        go_quiet (fail)
        go_wp2
        go_ret
        exact ⟨by (rw [HC.out]; try rfl), below_drewN (below_drewN hL.2.2.2 _) _⟩
    · obtain rfl : z = -1 := by omega
      have HC := Lib.hid (XC.out.symm.trans (cmp_same ha hb HE.out))
      go_wp2
      go_ret
      exact ⟨by (rw [HC.out]; try rfl), hL.2.2.2⟩

theorem refcmp_x (a b : Nat → Nat) (ha : Wds a) (hb : Wds b) (w : World) : Calls Try.prog 25 #[.agg #[.int .u64 (a 0), .int .u64 (a 1), .int .u64 (a 2), .int .u64 (a 3)], .agg #[.int .u64 (b 0), .int .u64 (b 1), .int .u64 (b 2), .int .u64 (b 3)]] w fun ee w' => ee = .returned (.int .i64 (cmpR a b)) ∧ Below w.heap.size w w' := by
  cases h1 : lowB a <;> cases h2 : lowB b
  · exact refcmp_00 a b _ ha hb h1 h2 rfl w
  · rw [(cmp_sign hb ha h2 h1).2]; exact refcmp_01 a b ha hb h1 h2 w
  · rw [(cmp_sign ha hb h1 h2).1]; exact refcmp_10 a b ha hb h1 h2 w
  · exact refcmp_11 a b _ ha hb h1 h2 rfl w

theorem sign_cmp {a : Nat → Nat} (ha : Wds a) : signI a = cmpR a Zr := by
  rw [signI_z ha, cmpR_z ha zr_words, zr_sval]
  unfold sgn cmpZ
  generalize sval a = x
  by_cases h1 : x < 0
  · rw [if_neg (by omega), if_pos h1, if_pos h1]
  · rw [if_neg h1]
    by_cases h2 : x = 0
    · rw [if_pos h2, if_neg h1, if_neg (by omega)]
    · rw [if_neg h2, if_neg h1, if_pos (by omega)]
theorem refcmp_z {a : Nat → Nat} {c : Int} (ha : Wds a) (h : cmpR a Zr = c) (w : World) : Calls Try.prog 25 #[.agg #[.int .u64 (a 0), .int .u64 (a 1), .int .u64 (a 2), .int .u64 (a 3)], .agg #[.int .u64 0, .int .u64 0, .int .u64 0, .int .u64 0]] w fun ee w' => ee = .returned (.int .i64 c) ∧ Below w.heap.size w w' := by subst h; exact refcmp_x a Zr ha zr_words w
set_option maxRecDepth 100000 in
set_option maxHeartbeats 4000000 in
theorem refsign_w (a : Nat → Nat) (c : Int) (ha : Wds a) (h1 : cmpR a Zr = c)  (w : World) :
    Calls Try.prog 27 #[.agg #[.int .u64 (a 0), .int .u64 (a 1), .int .u64 (a 2), .int .u64 (a 3)]] w fun ee w' => ee = .returned (.int .i64 c) ∧ Below w.heap.size w w' := by
  have Xh1 := Lib.hid h1
  clear h1
  have hL := lv_nil w
  go_enter Try.func27, Try.ntmps27
  go_wp2_with fail
  obtain ⟨V1, B2, hV3, hB4, hL⟩ := lv_grow hL (Obj.cells #[.int .u64 (a 0), .int .u64 (a 1), .int .u64 (a 2), .int .u64 (a 3)] 24)
  rw [hV3]
  try rw [hB4]
  clear hV3 hB4
  refine (refcmp_z ha Xh1.out _).mono ?_
  rintro e W5 ⟨rfl, hB⟩
  replace hL := lv_below hL hB
  clear hB
  go_wp2_with fail
  go_ret
  exact ⟨rfl, hL.2.2.2⟩

theorem refsign_x (a : Nat → Nat) (ha : Wds a) (w : World) : Calls Try.prog 27 #[.agg #[.int .u64 (a 0), .int .u64 (a 1), .int .u64 (a 2), .int .u64 (a 3)]] w fun ee w' => ee = .returned (.int .i64 (signI a)) ∧ Below w.heap.size w w' := refsign_w a _ ha (sign_cmp ha).symm w

end Go.Proofs.Ytecgclkjglkkbaa
