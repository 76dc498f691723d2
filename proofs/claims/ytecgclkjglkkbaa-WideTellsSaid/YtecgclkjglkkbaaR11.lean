/- The contract of the document's own function Mul: its ways. -/
import Derived.Test.YtecgclkjglkkbaaR10
namespace Go.Proofs.Ytecgclkjglkkbaa
open Go Go.RowKit Go.Shelf
set_option linter.unusedSimpArgs false
set_option linter.unusedVariables false

theorem lv_set8 {w W : World} (l1 : List (Nat × Obj)) {l2 : List (Nat × Obj)} {B : Nat} {r : Nat → Nat} {T : TypeId} (h : Lv w (l1 ++ (B, Obj.cells #[.int .u64 (r 0), .int .u64 (r 1), .int .u64 (r 2), .int .u64 (r 3), .int .u64 (r 4), .int .u64 (r 5), .int .u64 (r 6), .int .u64 (r 7)] T (0, 0)) :: l2) W) (i v : Nat) (hi : i < 8) :
    Lv w (l1 ++ (B, Obj.cells #[.int .u64 (upd r i v 0), .int .u64 (upd r i v 1), .int .u64 (upd r i v 2), .int .u64 (upd r i v 3), .int .u64 (upd r i v 4), .int .u64 (upd r i v 5), .int .u64 (upd r i v 6), .int .u64 (upd r i v 7)] T (0, 0)) :: l2) (W.setCell ⟨B, i, none⟩ (.int .u64 v)) := by
  have h2 := lv_set l1 h i (.int .u64 v)
  have : i = 0 ∨ i = 1 ∨ i = 2 ∨ i = 3 ∨ i = 4 ∨ i = 5 ∨ i = 6 ∨ i = 7 := by omega
  have e : (#[.int .u64 (r 0), .int .u64 (r 1), .int .u64 (r 2), .int .u64 (r 3), .int .u64 (r 4), .int .u64 (r 5), .int .u64 (r 6), .int .u64 (r 7)] : Array Value).setIfInBounds i (.int .u64 v) = #[.int .u64 (upd r i v 0), .int .u64 (upd r i v 1), .int .u64 (upd r i v 2), .int .u64 (upd r i v 3), .int .u64 (upd r i v 4), .int .u64 (upd r i v 5), .int .u64 (upd r i v 6), .int .u64 (upd r i v 7)] := by
    rcases this with rfl | rfl | rfl | rfl | rfl | rfl | rfl | rfl <;> simp [upd]
  rw [e] at h2
  exact h2
theorem lv_at8 {w W : World} {l : List (Nat × Obj)} (h : Lv w l W) {B : Nat} {r : Nat → Nat} (hm : (B, Obj.cells #[.int .u64 (r 0), .int .u64 (r 1), .int .u64 (r 2), .int .u64 (r 3), .int .u64 (r 4), .int .u64 (r 5), .int .u64 (r 6), .int .u64 (r 7)] 54 (0, 0)) ∈ l) : At8 W B r := h.1 _ hm
theorem lv_at16 {w W : World} {l : List (Nat × Obj)} (h : Lv w l W) {B : Nat} {r : Nat → Nat} (hm : (B, Obj.cells #[.int .u64 (r 0), .int .u64 (r 1), .int .u64 (r 2), .int .u64 (r 3), .int .u64 (r 4), .int .u64 (r 5), .int .u64 (r 6), .int .u64 (r 7), .int .u64 (r 8), .int .u64 (r 9), .int .u64 (r 10), .int .u64 (r 11), .int .u64 (r 12), .int .u64 (r 13), .int .u64 (r 14), .int .u64 (r 15)] 61 (0, 0)) ∈ l) : At16 W B r := h.1 _ hm

/-- The lowest k digits; is one of the first k digits from the ninth on not 0? -/
def loSt (m : Nat → Nat) (k : Nat) : Nat → Nat := fun i => if i < k then m i else 0
def hiSt (m : Nat → Nat) : Nat → Bool
  | 0 => false
  | k + 1 => hiSt m k || decide (0 < m (8 + k))
theorem loSt_up (m : Nat → Nat) (k : Nat) : upd (loSt m k) k (m k) = loSt m (k + 1) := by
  funext i
  unfold upd loSt
  by_cases h : i = k
  · subst h; rw [if_pos rfl, if_pos (by omega)]
  · rw [if_neg h]
    by_cases h2 : i < k
    · rw [if_pos h2, if_pos (by omega)]
    · rw [if_neg h2, if_neg (by omega)]

theorem refsize_c {a d : Nat → Nat} (ha : Wds a) (h : digR (sizeR a) = d) (w : World) : Calls Try.prog 58 #[.agg #[.int .u64 (a 0), .int .u64 (a 1), .int .u64 (a 2), .int .u64 (a 3)]] w fun ee w' => ee = .returned (.agg #[.int .u64 (d 0), .int .u64 (d 1), .int .u64 (d 2), .int .u64 (d 3), .int .u64 (d 4), .int .u64 (d 5), .int .u64 (d 6), .int .u64 (d 7)]) ∧ Below w.heap.size w w' := by subst h; exact refsize_x a ha w
theorem times_c {d e m : Nat → Nat} (hd : Digs d) (he : Digs e) (h : timesR d e = m) (w : World) : Calls Try.prog 57 #[.agg #[.int .u64 (d 0), .int .u64 (d 1), .int .u64 (d 2), .int .u64 (d 3), .int .u64 (d 4), .int .u64 (d 5), .int .u64 (d 6), .int .u64 (d 7)], .agg #[.int .u64 (e 0), .int .u64 (e 1), .int .u64 (e 2), .int .u64 (e 3), .int .u64 (e 4), .int .u64 (e 5), .int .u64 (e 6), .int .u64 (e 7)]] w fun ee w' => ee = .returned (.agg #[.int .u64 (m 0), .int .u64 (m 1), .int .u64 (m 2), .int .u64 (m 3), .int .u64 (m 4), .int .u64 (m 5), .int .u64 (m 6), .int .u64 (m 7), .int .u64 (m 8), .int .u64 (m 9), .int .u64 (m 10), .int .u64 (m 11), .int .u64 (m 12), .int .u64 (m 13), .int .u64 (m 14), .int .u64 (m 15)]) ∧ Below w.heap.size w w' := by subst h; exact times_r d e hd he w

def o15_1_0 : Oper := { dst := some 13, op := Go.Op.load 24 (Go.Operand.tmp 2), type := 24, pos := "ref.go:106", after := #[], guard := none }
def o15_1_1 : Oper := { dst := some 14, op := Go.Op.call { callee := Go.Callee.value (Go.Operand.func 58), args := #[Go.Operand.tmp 13], argTypes := #[24] }, type := 54, pos := "ref.go:106", after := #[{ on := 0, ground := Go.Ground.data }], guard := none }
def o15_1_2 : Oper := { dst := some 15, op := Go.Op.load 24 (Go.Operand.tmp 3), type := 24, pos := "ref.go:106", after := #[], guard := none }
def o15_1_3 : Oper := { dst := some 16, op := Go.Op.call { callee := Go.Callee.value (Go.Operand.func 58), args := #[Go.Operand.tmp 15], argTypes := #[24] }, type := 54, pos := "ref.go:106", after := #[{ on := 2, ground := Go.Ground.data }, { on := 1, ground := Go.Ground.chain }], guard := none }
def o15_1_4 : Oper := { dst := some 17, op := Go.Op.call { callee := Go.Callee.value (Go.Operand.func 57), args := #[Go.Operand.tmp 14, Go.Operand.tmp 16], argTypes := #[54, 54] }, type := 61, pos := "ref.go:106", after := #[{ on := 1, ground := Go.Ground.data }, { on := 3, ground := Go.Ground.data }, { on := 3, ground := Go.Ground.chain }], guard := none }
def o15_1_5 : Oper := { dst := some 6, op := Go.Op.alloc 61, type := 0, pos := "ref.go:106", after := #[], guard := none }
def o15_1_6 : Oper := { dst := none, op := Go.Op.store 61 (Go.Operand.tmp 6) (Go.Operand.tmp 17), type := 0, pos := "ref.go:106", after := #[{ on := 5, ground := Go.Ground.data }, { on := 4, ground := Go.Ground.data }, { on := 4, ground := Go.Ground.chain }, { on := 0, ground := Go.Ground.phase }, { on := 1, ground := Go.Ground.phase }, { on := 2, ground := Go.Ground.phase }, { on := 3, ground := Go.Ground.phase }, { on := 4, ground := Go.Ground.phase }, { on := 5, ground := Go.Ground.phase }], guard := none }
attribute [local go_sem] o15_1_0 o15_1_1 o15_1_2 o15_1_3 o15_1_4 o15_1_5 o15_1_6
def o15_10_0 : Oper := { dst := some 37, op := Go.Op.load 24 (Go.Operand.tmp 2), type := 24, pos := "ref.go:114", after := #[], guard := none }
def o15_10_1 : Oper := { dst := some 38, op := Go.Op.call { callee := Go.Callee.value (Go.Operand.func 52), args := #[Go.Operand.tmp 37], argTypes := #[24] }, type := 4, pos := "ref.go:114", after := #[{ on := 0, ground := Go.Ground.data }], guard := none }
def o15_10_2 : Oper := { dst := some 39, op := Go.Op.load 24 (Go.Operand.tmp 3), type := 24, pos := "ref.go:114", after := #[], guard := none }
def o15_10_3 : Oper := { dst := some 40, op := Go.Op.call { callee := Go.Callee.value (Go.Operand.func 52), args := #[Go.Operand.tmp 39], argTypes := #[24] }, type := 4, pos := "ref.go:114", after := #[{ on := 2, ground := Go.Ground.data }, { on := 1, ground := Go.Ground.chain }], guard := none }
def o15_10_4 : Oper := { dst := some 41, op := Go.Op.binOp Go.BinOp.eql 4 (Go.Operand.tmp 38) (Go.Operand.tmp 40) 4, type := 4, pos := "ref.go:114", after := #[{ on := 1, ground := Go.Ground.data }, { on := 3, ground := Go.Ground.data }], guard := none }
attribute [local go_sem] o15_10_0 o15_10_1 o15_10_2 o15_10_3 o15_10_4
def o15_11_0 : Oper := { dst := some 42, op := Go.Op.load 24 (Go.Operand.tmp 10), type := 24, pos := "ref.go:115", after := #[], guard := none }
def o15_11_1 : Oper := { dst := some 43, op := Go.Op.move (Go.Operand.tmp 8), type := 4, pos := "ref.go:115", after := #[], guard := none }
def o15_11_2 : Oper := { dst := some 44, op := Go.Op.move (Go.Operand.tmp 43), type := 4, pos := "ref.go:115", after := #[{ on := 1, ground := Go.Ground.data }], guard := none }
def o15_11_3 : Oper := { dst := some 45, op := Go.Op.load 24 (Go.Operand.tmp 10), type := 24, pos := "ref.go:115", after := #[{ on := 2, ground := Go.Ground.guard }], guard := some (2, false) }
def o15_11_4 : Oper := { dst := some 46, op := Go.Op.call { callee := Go.Callee.value (Go.Operand.func 52), args := #[Go.Operand.tmp 45], argTypes := #[24] }, type := 4, pos := "ref.go:115", after := #[{ on := 3, ground := Go.Ground.data }, { on := 2, ground := Go.Ground.chain }, { on := 2, ground := Go.Ground.guard }], guard := some (2, false) }
def o15_11_5 : Oper := { dst := some 47, op := Go.Op.pick (Go.Operand.tmp 44) (Go.Operand.const (Go.Value.bool true)) (Go.Operand.tmp 46), type := 4, pos := "ref.go:115", after := #[{ on := 2, ground := Go.Ground.data }, { on := 4, ground := Go.Ground.data }, { on := 6, ground := Go.Ground.gcOnly Go.Departure.lateStores }], guard := none }
def o15_11_6 : Oper := { dst := none, op := Go.Op.store 24 (Go.Operand.tmp 4) (Go.Operand.tmp 42), type := 0, pos := "ref.go:115", after := #[{ on := 0, ground := Go.Ground.data }, { on := 4, ground := Go.Ground.chain }, { on := 0, ground := Go.Ground.phase }, { on := 1, ground := Go.Ground.textOnly Go.Departure.lateStores }, { on := 2, ground := Go.Ground.textOnly Go.Departure.lateStores }, { on := 3, ground := Go.Ground.textOnly Go.Departure.lateStores }, { on := 4, ground := Go.Ground.textOnly Go.Departure.lateStoresUnsure }, { on := 5, ground := Go.Ground.textOnly Go.Departure.lateStores }], guard := none }
def o15_11_7 : Oper := { dst := some 5, op := Go.Op.assign (Go.Operand.tmp 47), type := 4, pos := "ref.go:115", after := #[{ on := 5, ground := Go.Ground.data }, { on := 6, ground := Go.Ground.chain }, { on := 0, ground := Go.Ground.phase }, { on := 1, ground := Go.Ground.phase }, { on := 2, ground := Go.Ground.phase }, { on := 3, ground := Go.Ground.phase }, { on := 4, ground := Go.Ground.phase }, { on := 5, ground := Go.Ground.phase }, { on := 6, ground := Go.Ground.phase }], guard := none }
attribute [local go_sem] o15_11_0 o15_11_1 o15_11_2 o15_11_3 o15_11_4 o15_11_5 o15_11_6 o15_11_7
set_option maxRecDepth 100000 in
set_option maxHeartbeats 4000000 in
theorem refmul_r1 (w W : World) (B11 B6 B2 : Nat) (a b d e m : Nat → Nat) (ha : Wds a) (hb : Wds b) (hd : Digs d) (he : Digs e) (Xh1 : Hid (digR (sizeR a) = d)) (Xh2 : Hid (digR (sizeR b) = e)) (Xh3 : Hid (timesR d e = m)) (hL : Lv w [(B11, Obj.cells #[.int .u64 0, .int .u64 0, .int .u64 0, .int .u64 0] 24 (0, 0)), (B6, Obj.cells #[.int .u64 (b 0), .int .u64 (b 1), .int .u64 (b 2), .int .u64 (b 3)] 24 (0, 0)), (B2, Obj.cells #[.int .u64 (a 0), .int .u64 (a 1), .int .u64 (a 2), .int .u64 (a 3)] 24 (0, 0))] W) :
    (Code.region 1 #[o15_1_0, o15_1_1, o15_1_2, o15_1_3, o15_1_4, o15_1_5, o15_1_6] true).wp Try.prog (fun ee aa ww => ee = Exit.normal ∧ ∃ N5 : Nat, aa = { tmps := #[.agg #[.int .u64 (a 0), .int .u64 (a 1), .int .u64 (a 2), .int .u64 (a 3)], .agg #[.int .u64 (b 0), .int .u64 (b 1), .int .u64 (b 2), .int .u64 (b 3)], .pointer (some ⟨B2, 0, none⟩), .pointer (some ⟨B6, 0, none⟩), .pointer (some ⟨B11, 0, none⟩), .bool false, .pointer (some ⟨N5, 0, none⟩), undef, undef, undef, undef, undef, undef, .agg #[.int .u64 (a 0), .int .u64 (a 1), .int .u64 (a 2), .int .u64 (a 3)], .agg #[.int .u64 (d 0), .int .u64 (d 1), .int .u64 (d 2), .int .u64 (d 3), .int .u64 (d 4), .int .u64 (d 5), .int .u64 (d 6), .int .u64 (d 7)], .agg #[.int .u64 (b 0), .int .u64 (b 1), .int .u64 (b 2), .int .u64 (b 3)], .agg #[.int .u64 (e 0), .int .u64 (e 1), .int .u64 (e 2), .int .u64 (e 3), .int .u64 (e 4), .int .u64 (e 5), .int .u64 (e 6), .int .u64 (e 7)], .agg #[.int .u64 (m 0), .int .u64 (m 1), .int .u64 (m 2), .int .u64 (m 3), .int .u64 (m 4), .int .u64 (m 5), .int .u64 (m 6), .int .u64 (m 7), .int .u64 (m 8), .int .u64 (m 9), .int .u64 (m 10), .int .u64 (m 11), .int .u64 (m 12), .int .u64 (m 13), .int .u64 (m 14), .int .u64 (m 15)], undef, undef, undef, undef, undef, undef, undef, undef, undef, undef, undef, undef, undef, undef, undef, undef, undef, undef, undef, undef, undef, undef, undef, undef, undef, undef, undef, undef, undef, undef, undef, undef, undef, undef, undef, undef, undef, undef, undef, undef, undef, undef, undef, undef, undef, undef, undef], defers := [] } ∧ Lv w [(N5, Obj.cells #[.int .u64 (m 0), .int .u64 (m 1), .int .u64 (m 2), .int .u64 (m 3), .int .u64 (m 4), .int .u64 (m 5), .int .u64 (m 6), .int .u64 (m 7), .int .u64 (m 8), .int .u64 (m 9), .int .u64 (m 10), .int .u64 (m 11), .int .u64 (m 12), .int .u64 (m 13), .int .u64 (m 14), .int .u64 (m 15)] 61 (0, 0)), (B11, Obj.cells #[.int .u64 0, .int .u64 0, .int .u64 0, .int .u64 0] 24 (0, 0)), (B6, Obj.cells #[.int .u64 (b 0), .int .u64 (b 1), .int .u64 (b 2), .int .u64 (b 3)] 24 (0, 0)), (B2, Obj.cells #[.int .u64 (a 0), .int .u64 (a 1), .int .u64 (a 2), .int .u64 (a 3)] 24 (0, 0))] ww) { tmps := #[.agg #[.int .u64 (a 0), .int .u64 (a 1), .int .u64 (a 2), .int .u64 (a 3)], .agg #[.int .u64 (b 0), .int .u64 (b 1), .int .u64 (b 2), .int .u64 (b 3)], .pointer (some ⟨B2, 0, none⟩), .pointer (some ⟨B6, 0, none⟩), .pointer (some ⟨B11, 0, none⟩), .bool false, undef, undef, undef, undef, undef, undef, undef, undef, undef, undef, undef, undef, undef, undef, undef, undef, undef, undef, undef, undef, undef, undef, undef, undef, undef, undef, undef, undef, undef, undef, undef, undef, undef, undef, undef, undef, undef, undef, undef, undef, undef, undef, undef, undef, undef, undef, undef, undef, undef, undef, undef, undef, undef, undef, undef, undef, undef, undef, undef], defers := [] } W := by
  refine wp_region_noPanic ?_
  refine wp_region_held_drew (S := fun W' => Lv w [(B11, Obj.cells #[.int .u64 0, .int .u64 0, .int .u64 0, .int .u64 0] 24 (0, 0)), (B6, Obj.cells #[.int .u64 (b 0), .int .u64 (b 1), .int .u64 (b 2), .int .u64 (b 3)] 24 (0, 0)), (B2, Obj.cells #[.int .u64 (a 0), .int .u64 (a 1), .int .u64 (a 2), .int .u64 (a 3)] 24 (0, 0))] W') (by kernel_rfl) (lv_drew (lv_sub (sk (sk (sk sn))) hL)) (fun hHeld => ?_)
  replace hL := lv_drew hL
  obtain ⟨D15, hD16⟩ : ∃ W0, World.drew W = W0 := ⟨_, rfl⟩
  rw [hD16] at hHeld hL ⊢
  clear hD16
  refine tk 0 o15_1_0 (v := ?_) ?_ ?_
  rotate_left
  · intro w hSw
    obtain ⟨k0, k1, k2, k3⟩ := lv_cells4 hSw lm2
    delta o15_1_0
    go_simp
    try with_reducible rfl
  try simp only [Act.put, o15_1_0, List.setIfInBounds_toArray, List.set_cons_zero, List.set_cons_succ]
  refine tk 2 o15_1_2 (v := ?_) ?_ ?_
  rotate_left
  · intro w hSw
    obtain ⟨k0, k1, k2, k3⟩ := lv_cells4 hSw lm1
    delta o15_1_2
    go_simp
    try with_reducible rfl
  try simp only [Act.put, o15_1_2, List.setIfInBounds_toArray, List.set_cons_zero, List.set_cons_succ]
  refine rd2 1 5 o15_1_1 o15_1_5 (fun K hK => ?_) (fun K hK => ?_)
  · skip
    delta o15_1_1
    go_simp
    refine (refsize_c ha Xh1.out _).mono ?_
    rintro e W17 ⟨rfl, hBl⟩
    replace hL := lv_below hL hBl
    clear hBl
    refine hK.out _ _ (lv_sub (sk (sk (sk sn))) hL) (fun hHeld2 => ?_)
    clear hK K hHeld
    have hHeld := hHeld2
    clear hHeld2
    try simp only [Act.put, o15_1_1, List.setIfInBounds_toArray, List.set_cons_zero, List.set_cons_succ]
    refine rd2 3 5 o15_1_3 o15_1_5 (fun K hK => ?_) (fun K hK => ?_)
    · skip
      delta o15_1_3
      go_simp
      refine (refsize_c hb Xh2.out _).mono ?_
      rintro e W18 ⟨rfl, hBl⟩
      replace hL := lv_below hL hBl
      clear hBl
      refine hK.out _ _ (lv_sub (sk (sk (sk sn))) hL) (fun hHeld2 => ?_)
      clear hK K hHeld
      have hHeld := hHeld2
      clear hHeld2
      try simp only [Act.put, o15_1_3, List.setIfInBounds_toArray, List.set_cons_zero, List.set_cons_succ]
      refine rd2 4 5 o15_1_4 o15_1_5 (fun K hK => ?_) (fun K hK => ?_)
      · skip
        delta o15_1_4
        go_simp
        refine (times_c hd he Xh3.out _).mono ?_
        rintro e W19 ⟨rfl, hBl⟩
        replace hL := lv_below hL hBl
        clear hBl
        refine hK.out _ _ (lv_sub (sk (sk (sk sn))) hL) (fun hHeld2 => ?_)
        clear hK K hHeld
        have hHeld := hHeld2
        clear hHeld2
        try simp only [Act.put, o15_1_4, List.setIfInBounds_toArray, List.set_cons_zero, List.set_cons_succ]
        refine rd1 5 o15_1_5 (fun K hK => ?_)
        delta o15_1_5
        go_simp
        obtain ⟨V20, B21, hVx, hBx, hL2⟩ := lv_grow hL (Obj.cells #[.int .u64 0, .int .u64 0, .int .u64 0, .int .u64 0, .int .u64 0, .int .u64 0, .int .u64 0, .int .u64 0, .int .u64 0, .int .u64 0, .int .u64 0, .int .u64 0, .int .u64 0, .int .u64 0, .int .u64 0, .int .u64 0] 61)
        rw [hVx, hBx]
        clear hVx hBx hL
        have hL := hL2
        clear hL2
        refine hK.out _ _ (lv_sub (sd (sk (sk (sk sn)))) hL) (fun hHeld2 => ?_)
        clear hK K hHeld
        have hHeld := hHeld2
        clear hHeld2
        try simp only [Act.put, o15_1_5, List.setIfInBounds_toArray, List.set_cons_zero, List.set_cons_succ]
        refine rd1 6 o15_1_6 (fun K hK => ?_)
        obtain ⟨k0, k1, k2, k3, k4, k5, k6, k7, k8, k9, k10, k11, k12, k13, k14, k15⟩ := lv_cells16 hL lm0
        have z0 := lv_frozen hL lm0 0
        have z1 := lv_frozen hL lm0 1
        have z2 := lv_frozen hL lm0 2
        have z3 := lv_frozen hL lm0 3
        have z4 := lv_frozen hL lm0 4
        have z5 := lv_frozen hL lm0 5
        have z6 := lv_frozen hL lm0 6
        have z7 := lv_frozen hL lm0 7
        have z8 := lv_frozen hL lm0 8
        have z9 := lv_frozen hL lm0 9
        have z10 := lv_frozen hL lm0 10
        have z11 := lv_frozen hL lm0 11
        have z12 := lv_frozen hL lm0 12
        have z13 := lv_frozen hL lm0 13
        have z14 := lv_frozen hL lm0 14
        have z15 := lv_frozen hL lm0 15
        delta o15_1_6
        go_simp
        clear k0 z0 k1 z1 k2 z2 k3 z3 k4 z4 k5 z5 k6 z6 k7 z7 k8 z8 k9 z9 k10 z10 k11 z11 k12 z12 k13 z13 k14 z14 k15 z15
        obtain ⟨V22, hVx, hL2⟩ : ∃ V, (World.setCell (World.setCell (World.setCell (World.setCell (World.setCell (World.setCell (World.setCell (World.setCell (World.setCell (World.setCell (World.setCell (World.setCell (World.setCell (World.setCell (World.setCell (World.setCell V20 ⟨B21, 0, none⟩ (.int .u64 (m 0))) ⟨B21, 1, none⟩ (.int .u64 (m 1))) ⟨B21, 2, none⟩ (.int .u64 (m 2))) ⟨B21, 3, none⟩ (.int .u64 (m 3))) ⟨B21, 4, none⟩ (.int .u64 (m 4))) ⟨B21, 5, none⟩ (.int .u64 (m 5))) ⟨B21, 6, none⟩ (.int .u64 (m 6))) ⟨B21, 7, none⟩ (.int .u64 (m 7))) ⟨B21, 8, none⟩ (.int .u64 (m 8))) ⟨B21, 9, none⟩ (.int .u64 (m 9))) ⟨B21, 10, none⟩ (.int .u64 (m 10))) ⟨B21, 11, none⟩ (.int .u64 (m 11))) ⟨B21, 12, none⟩ (.int .u64 (m 12))) ⟨B21, 13, none⟩ (.int .u64 (m 13))) ⟨B21, 14, none⟩ (.int .u64 (m 14))) ⟨B21, 15, none⟩ (.int .u64 (m 15))) = V ∧ Lv w [(B21, Obj.cells #[.int .u64 (m 0), .int .u64 (m 1), .int .u64 (m 2), .int .u64 (m 3), .int .u64 (m 4), .int .u64 (m 5), .int .u64 (m 6), .int .u64 (m 7), .int .u64 (m 8), .int .u64 (m 9), .int .u64 (m 10), .int .u64 (m 11), .int .u64 (m 12), .int .u64 (m 13), .int .u64 (m 14), .int .u64 (m 15)] 61 (0, 0)), (B11, Obj.cells #[.int .u64 0, .int .u64 0, .int .u64 0, .int .u64 0] 24 (0, 0)), (B6, Obj.cells #[.int .u64 (b 0), .int .u64 (b 1), .int .u64 (b 2), .int .u64 (b 3)] 24 (0, 0)), (B2, Obj.cells #[.int .u64 (a 0), .int .u64 (a 1), .int .u64 (a 2), .int .u64 (a 3)] 24 (0, 0))] V := ⟨_, rfl, lv_store16 [] hL _ _ _ _ _ _ _ _ _ _ _ _ _ _ _ _⟩
        rw [hVx]
        clear hVx hL
        have hL := hL2
        clear hL2
        refine hK.out _ _ (lv_sub (sd (sk (sk (sk sn)))) hL) (fun hHeld2 => ?_)
        clear hK K hHeld
        have hHeld := hHeld2
        clear hHeld2
        try simp only [Act.put, o15_1_6, List.setIfInBounds_toArray, List.set_cons_zero, List.set_cons_succ]
        refine wpAnyH_done (by kernel_rfl) ?_ _
        refine NoPanic.normal ?_
        exact ⟨rfl, B21, rfl, hL⟩
      · skip
        delta o15_1_5
        go_simp
        obtain ⟨V23, B24, hVx, hBx, hL2⟩ := lv_grow hL (Obj.cells #[.int .u64 0, .int .u64 0, .int .u64 0, .int .u64 0, .int .u64 0, .int .u64 0, .int .u64 0, .int .u64 0, .int .u64 0, .int .u64 0, .int .u64 0, .int .u64 0, .int .u64 0, .int .u64 0, .int .u64 0, .int .u64 0] 61)
        rw [hVx, hBx]
        clear hVx hBx hL
        have hL := hL2
        clear hL2
        refine hK.out _ _ (lv_sub (sd (sk (sk (sk sn)))) hL) (fun hHeld2 => ?_)
        clear hK K hHeld
        have hHeld := hHeld2
        clear hHeld2
        try simp only [Act.put, o15_1_5, List.setIfInBounds_toArray, List.set_cons_zero, List.set_cons_succ]
        refine rd1 4 o15_1_4 (fun K hK => ?_)
        delta o15_1_4
        go_simp
        refine (times_c hd he Xh3.out _).mono ?_
        rintro e W25 ⟨rfl, hBl⟩
        replace hL := lv_below hL hBl
        clear hBl
        refine hK.out _ _ (lv_sub (sd (sk (sk (sk sn)))) hL) (fun hHeld2 => ?_)
        clear hK K hHeld
        have hHeld := hHeld2
        clear hHeld2
        try simp only [Act.put, o15_1_4, List.setIfInBounds_toArray, List.set_cons_zero, List.set_cons_succ]
        refine rd1 6 o15_1_6 (fun K hK => ?_)
        obtain ⟨k0, k1, k2, k3, k4, k5, k6, k7, k8, k9, k10, k11, k12, k13, k14, k15⟩ := lv_cells16 hL lm0
        have z0 := lv_frozen hL lm0 0
        have z1 := lv_frozen hL lm0 1
        have z2 := lv_frozen hL lm0 2
        have z3 := lv_frozen hL lm0 3
        have z4 := lv_frozen hL lm0 4
        have z5 := lv_frozen hL lm0 5
        have z6 := lv_frozen hL lm0 6
        have z7 := lv_frozen hL lm0 7
        have z8 := lv_frozen hL lm0 8
        have z9 := lv_frozen hL lm0 9
        have z10 := lv_frozen hL lm0 10
        have z11 := lv_frozen hL lm0 11
        have z12 := lv_frozen hL lm0 12
        have z13 := lv_frozen hL lm0 13
        have z14 := lv_frozen hL lm0 14
        have z15 := lv_frozen hL lm0 15
        delta o15_1_6
        go_simp
        clear k0 z0 k1 z1 k2 z2 k3 z3 k4 z4 k5 z5 k6 z6 k7 z7 k8 z8 k9 z9 k10 z10 k11 z11 k12 z12 k13 z13 k14 z14 k15 z15
        obtain ⟨V26, hVx, hL2⟩ : ∃ V, (World.setCell (World.setCell (World.setCell (World.setCell (World.setCell (World.setCell (World.setCell (World.setCell (World.setCell (World.setCell (World.setCell (World.setCell (World.setCell (World.setCell (World.setCell (World.setCell W25 ⟨B24, 0, none⟩ (.int .u64 (m 0))) ⟨B24, 1, none⟩ (.int .u64 (m 1))) ⟨B24, 2, none⟩ (.int .u64 (m 2))) ⟨B24, 3, none⟩ (.int .u64 (m 3))) ⟨B24, 4, none⟩ (.int .u64 (m 4))) ⟨B24, 5, none⟩ (.int .u64 (m 5))) ⟨B24, 6, none⟩ (.int .u64 (m 6))) ⟨B24, 7, none⟩ (.int .u64 (m 7))) ⟨B24, 8, none⟩ (.int .u64 (m 8))) ⟨B24, 9, none⟩ (.int .u64 (m 9))) ⟨B24, 10, none⟩ (.int .u64 (m 10))) ⟨B24, 11, none⟩ (.int .u64 (m 11))) ⟨B24, 12, none⟩ (.int .u64 (m 12))) ⟨B24, 13, none⟩ (.int .u64 (m 13))) ⟨B24, 14, none⟩ (.int .u64 (m 14))) ⟨B24, 15, none⟩ (.int .u64 (m 15))) = V ∧ Lv w [(B24, Obj.cells #[.int .u64 (m 0), .int .u64 (m 1), .int .u64 (m 2), .int .u64 (m 3), .int .u64 (m 4), .int .u64 (m 5), .int .u64 (m 6), .int .u64 (m 7), .int .u64 (m 8), .int .u64 (m 9), .int .u64 (m 10), .int .u64 (m 11), .int .u64 (m 12), .int .u64 (m 13), .int .u64 (m 14), .int .u64 (m 15)] 61 (0, 0)), (B11, Obj.cells #[.int .u64 0, .int .u64 0, .int .u64 0, .int .u64 0] 24 (0, 0)), (B6, Obj.cells #[.int .u64 (b 0), .int .u64 (b 1), .int .u64 (b 2), .int .u64 (b 3)] 24 (0, 0)), (B2, Obj.cells #[.int .u64 (a 0), .int .u64 (a 1), .int .u64 (a 2), .int .u64 (a 3)] 24 (0, 0))] V := ⟨_, rfl, lv_store16 [] hL _ _ _ _ _ _ _ _ _ _ _ _ _ _ _ _⟩
        rw [hVx]
        clear hVx hL
        have hL := hL2
        clear hL2
        refine hK.out _ _ (lv_sub (sd (sk (sk (sk sn)))) hL) (fun hHeld2 => ?_)
        clear hK K hHeld
        have hHeld := hHeld2
        clear hHeld2
        try simp only [Act.put, o15_1_6, List.setIfInBounds_toArray, List.set_cons_zero, List.set_cons_succ]
        refine wpAnyH_done (by kernel_rfl) ?_ _
        refine NoPanic.normal ?_
        exact ⟨rfl, B24, rfl, hL⟩
    · skip
      delta o15_1_5
      go_simp
      obtain ⟨V27, B28, hVx, hBx, hL2⟩ := lv_grow hL (Obj.cells #[.int .u64 0, .int .u64 0, .int .u64 0, .int .u64 0, .int .u64 0, .int .u64 0, .int .u64 0, .int .u64 0, .int .u64 0, .int .u64 0, .int .u64 0, .int .u64 0, .int .u64 0, .int .u64 0, .int .u64 0, .int .u64 0] 61)
      rw [hVx, hBx]
      clear hVx hBx hL
      have hL := hL2
      clear hL2
      refine hK.out _ _ (lv_sub (sd (sk (sk (sk sn)))) hL) (fun hHeld2 => ?_)
      clear hK K hHeld
      have hHeld := hHeld2
      clear hHeld2
      try simp only [Act.put, o15_1_5, List.setIfInBounds_toArray, List.set_cons_zero, List.set_cons_succ]
      refine rd1 3 o15_1_3 (fun K hK => ?_)
      delta o15_1_3
      go_simp
      refine (refsize_c hb Xh2.out _).mono ?_
      rintro e W29 ⟨rfl, hBl⟩
      replace hL := lv_below hL hBl
      clear hBl
      refine hK.out _ _ (lv_sub (sd (sk (sk (sk sn)))) hL) (fun hHeld2 => ?_)
      clear hK K hHeld
      have hHeld := hHeld2
      clear hHeld2
      try simp only [Act.put, o15_1_3, List.setIfInBounds_toArray, List.set_cons_zero, List.set_cons_succ]
      refine rd1 4 o15_1_4 (fun K hK => ?_)
      delta o15_1_4
      go_simp
      refine (times_c hd he Xh3.out _).mono ?_
      rintro e W30 ⟨rfl, hBl⟩
      replace hL := lv_below hL hBl
      clear hBl
      refine hK.out _ _ (lv_sub (sd (sk (sk (sk sn)))) hL) (fun hHeld2 => ?_)
      clear hK K hHeld
      have hHeld := hHeld2
      clear hHeld2
      try simp only [Act.put, o15_1_4, List.setIfInBounds_toArray, List.set_cons_zero, List.set_cons_succ]
      refine rd1 6 o15_1_6 (fun K hK => ?_)
      obtain ⟨k0, k1, k2, k3, k4, k5, k6, k7, k8, k9, k10, k11, k12, k13, k14, k15⟩ := lv_cells16 hL lm0
      have z0 := lv_frozen hL lm0 0
      have z1 := lv_frozen hL lm0 1
      have z2 := lv_frozen hL lm0 2
      have z3 := lv_frozen hL lm0 3
      have z4 := lv_frozen hL lm0 4
      have z5 := lv_frozen hL lm0 5
      have z6 := lv_frozen hL lm0 6
      have z7 := lv_frozen hL lm0 7
      have z8 := lv_frozen hL lm0 8
      have z9 := lv_frozen hL lm0 9
      have z10 := lv_frozen hL lm0 10
      have z11 := lv_frozen hL lm0 11
      have z12 := lv_frozen hL lm0 12
      have z13 := lv_frozen hL lm0 13
      have z14 := lv_frozen hL lm0 14
      have z15 := lv_frozen hL lm0 15
      delta o15_1_6
      go_simp
      clear k0 z0 k1 z1 k2 z2 k3 z3 k4 z4 k5 z5 k6 z6 k7 z7 k8 z8 k9 z9 k10 z10 k11 z11 k12 z12 k13 z13 k14 z14 k15 z15
      obtain ⟨V31, hVx, hL2⟩ : ∃ V, (World.setCell (World.setCell (World.setCell (World.setCell (World.setCell (World.setCell (World.setCell (World.setCell (World.setCell (World.setCell (World.setCell (World.setCell (World.setCell (World.setCell (World.setCell (World.setCell W30 ⟨B28, 0, none⟩ (.int .u64 (m 0))) ⟨B28, 1, none⟩ (.int .u64 (m 1))) ⟨B28, 2, none⟩ (.int .u64 (m 2))) ⟨B28, 3, none⟩ (.int .u64 (m 3))) ⟨B28, 4, none⟩ (.int .u64 (m 4))) ⟨B28, 5, none⟩ (.int .u64 (m 5))) ⟨B28, 6, none⟩ (.int .u64 (m 6))) ⟨B28, 7, none⟩ (.int .u64 (m 7))) ⟨B28, 8, none⟩ (.int .u64 (m 8))) ⟨B28, 9, none⟩ (.int .u64 (m 9))) ⟨B28, 10, none⟩ (.int .u64 (m 10))) ⟨B28, 11, none⟩ (.int .u64 (m 11))) ⟨B28, 12, none⟩ (.int .u64 (m 12))) ⟨B28, 13, none⟩ (.int .u64 (m 13))) ⟨B28, 14, none⟩ (.int .u64 (m 14))) ⟨B28, 15, none⟩ (.int .u64 (m 15))) = V ∧ Lv w [(B28, Obj.cells #[.int .u64 (m 0), .int .u64 (m 1), .int .u64 (m 2), .int .u64 (m 3), .int .u64 (m 4), .int .u64 (m 5), .int .u64 (m 6), .int .u64 (m 7), .int .u64 (m 8), .int .u64 (m 9), .int .u64 (m 10), .int .u64 (m 11), .int .u64 (m 12), .int .u64 (m 13), .int .u64 (m 14), .int .u64 (m 15)] 61 (0, 0)), (B11, Obj.cells #[.int .u64 0, .int .u64 0, .int .u64 0, .int .u64 0] 24 (0, 0)), (B6, Obj.cells #[.int .u64 (b 0), .int .u64 (b 1), .int .u64 (b 2), .int .u64 (b 3)] 24 (0, 0)), (B2, Obj.cells #[.int .u64 (a 0), .int .u64 (a 1), .int .u64 (a 2), .int .u64 (a 3)] 24 (0, 0))] V := ⟨_, rfl, lv_store16 [] hL _ _ _ _ _ _ _ _ _ _ _ _ _ _ _ _⟩
      rw [hVx]
      clear hVx hL
      have hL := hL2
      clear hL2
      refine hK.out _ _ (lv_sub (sd (sk (sk (sk sn)))) hL) (fun hHeld2 => ?_)
      clear hK K hHeld
      have hHeld := hHeld2
      clear hHeld2
      try simp only [Act.put, o15_1_6, List.setIfInBounds_toArray, List.set_cons_zero, List.set_cons_succ]
      refine wpAnyH_done (by kernel_rfl) ?_ _
      refine NoPanic.normal ?_
      exact ⟨rfl, B28, rfl, hL⟩
  · skip
    delta o15_1_5
    go_simp
    obtain ⟨V32, B33, hVx, hBx, hL2⟩ := lv_grow hL (Obj.cells #[.int .u64 0, .int .u64 0, .int .u64 0, .int .u64 0, .int .u64 0, .int .u64 0, .int .u64 0, .int .u64 0, .int .u64 0, .int .u64 0, .int .u64 0, .int .u64 0, .int .u64 0, .int .u64 0, .int .u64 0, .int .u64 0] 61)
    rw [hVx, hBx]
    clear hVx hBx hL
    have hL := hL2
    clear hL2
    refine hK.out _ _ (lv_sub (sd (sk (sk (sk sn)))) hL) (fun hHeld2 => ?_)
    clear hK K hHeld
    have hHeld := hHeld2
    clear hHeld2
    try simp only [Act.put, o15_1_5, List.setIfInBounds_toArray, List.set_cons_zero, List.set_cons_succ]
    refine rd1 1 o15_1_1 (fun K hK => ?_)
    delta o15_1_1
    go_simp
    refine (refsize_c ha Xh1.out _).mono ?_
    rintro e W34 ⟨rfl, hBl⟩
    replace hL := lv_below hL hBl
    clear hBl
    refine hK.out _ _ (lv_sub (sd (sk (sk (sk sn)))) hL) (fun hHeld2 => ?_)
    clear hK K hHeld
    have hHeld := hHeld2
    clear hHeld2
    try simp only [Act.put, o15_1_1, List.setIfInBounds_toArray, List.set_cons_zero, List.set_cons_succ]
    refine rd1 3 o15_1_3 (fun K hK => ?_)
    delta o15_1_3
    go_simp
    refine (refsize_c hb Xh2.out _).mono ?_
    rintro e W35 ⟨rfl, hBl⟩
    replace hL := lv_below hL hBl
    clear hBl
    refine hK.out _ _ (lv_sub (sd (sk (sk (sk sn)))) hL) (fun hHeld2 => ?_)
    clear hK K hHeld
    have hHeld := hHeld2
    clear hHeld2
    try simp only [Act.put, o15_1_3, List.setIfInBounds_toArray, List.set_cons_zero, List.set_cons_succ]
    refine rd1 4 o15_1_4 (fun K hK => ?_)
    delta o15_1_4
    go_simp
    refine (times_c hd he Xh3.out _).mono ?_
    rintro e W36 ⟨rfl, hBl⟩
    replace hL := lv_below hL hBl
    clear hBl
    refine hK.out _ _ (lv_sub (sd (sk (sk (sk sn)))) hL) (fun hHeld2 => ?_)
    clear hK K hHeld
    have hHeld := hHeld2
    clear hHeld2
    try simp only [Act.put, o15_1_4, List.setIfInBounds_toArray, List.set_cons_zero, List.set_cons_succ]
    refine rd1 6 o15_1_6 (fun K hK => ?_)
    obtain ⟨k0, k1, k2, k3, k4, k5, k6, k7, k8, k9, k10, k11, k12, k13, k14, k15⟩ := lv_cells16 hL lm0
    have z0 := lv_frozen hL lm0 0
    have z1 := lv_frozen hL lm0 1
    have z2 := lv_frozen hL lm0 2
    have z3 := lv_frozen hL lm0 3
    have z4 := lv_frozen hL lm0 4
    have z5 := lv_frozen hL lm0 5
    have z6 := lv_frozen hL lm0 6
    have z7 := lv_frozen hL lm0 7
    have z8 := lv_frozen hL lm0 8
    have z9 := lv_frozen hL lm0 9
    have z10 := lv_frozen hL lm0 10
    have z11 := lv_frozen hL lm0 11
    have z12 := lv_frozen hL lm0 12
    have z13 := lv_frozen hL lm0 13
    have z14 := lv_frozen hL lm0 14
    have z15 := lv_frozen hL lm0 15
    delta o15_1_6
    go_simp
    clear k0 z0 k1 z1 k2 z2 k3 z3 k4 z4 k5 z5 k6 z6 k7 z7 k8 z8 k9 z9 k10 z10 k11 z11 k12 z12 k13 z13 k14 z14 k15 z15
    obtain ⟨V37, hVx, hL2⟩ : ∃ V, (World.setCell (World.setCell (World.setCell (World.setCell (World.setCell (World.setCell (World.setCell (World.setCell (World.setCell (World.setCell (World.setCell (World.setCell (World.setCell (World.setCell (World.setCell (World.setCell W36 ⟨B33, 0, none⟩ (.int .u64 (m 0))) ⟨B33, 1, none⟩ (.int .u64 (m 1))) ⟨B33, 2, none⟩ (.int .u64 (m 2))) ⟨B33, 3, none⟩ (.int .u64 (m 3))) ⟨B33, 4, none⟩ (.int .u64 (m 4))) ⟨B33, 5, none⟩ (.int .u64 (m 5))) ⟨B33, 6, none⟩ (.int .u64 (m 6))) ⟨B33, 7, none⟩ (.int .u64 (m 7))) ⟨B33, 8, none⟩ (.int .u64 (m 8))) ⟨B33, 9, none⟩ (.int .u64 (m 9))) ⟨B33, 10, none⟩ (.int .u64 (m 10))) ⟨B33, 11, none⟩ (.int .u64 (m 11))) ⟨B33, 12, none⟩ (.int .u64 (m 12))) ⟨B33, 13, none⟩ (.int .u64 (m 13))) ⟨B33, 14, none⟩ (.int .u64 (m 14))) ⟨B33, 15, none⟩ (.int .u64 (m 15))) = V ∧ Lv w [(B33, Obj.cells #[.int .u64 (m 0), .int .u64 (m 1), .int .u64 (m 2), .int .u64 (m 3), .int .u64 (m 4), .int .u64 (m 5), .int .u64 (m 6), .int .u64 (m 7), .int .u64 (m 8), .int .u64 (m 9), .int .u64 (m 10), .int .u64 (m 11), .int .u64 (m 12), .int .u64 (m 13), .int .u64 (m 14), .int .u64 (m 15)] 61 (0, 0)), (B11, Obj.cells #[.int .u64 0, .int .u64 0, .int .u64 0, .int .u64 0] 24 (0, 0)), (B6, Obj.cells #[.int .u64 (b 0), .int .u64 (b 1), .int .u64 (b 2), .int .u64 (b 3)] 24 (0, 0)), (B2, Obj.cells #[.int .u64 (a 0), .int .u64 (a 1), .int .u64 (a 2), .int .u64 (a 3)] 24 (0, 0))] V := ⟨_, rfl, lv_store16 [] hL _ _ _ _ _ _ _ _ _ _ _ _ _ _ _ _⟩
    rw [hVx]
    clear hVx hL
    have hL := hL2
    clear hL2
    refine hK.out _ _ (lv_sub (sd (sk (sk (sk sn)))) hL) (fun hHeld2 => ?_)
    clear hK K hHeld
    have hHeld := hHeld2
    clear hHeld2
    try simp only [Act.put, o15_1_6, List.setIfInBounds_toArray, List.set_cons_zero, List.set_cons_succ]
    refine wpAnyH_done (by kernel_rfl) ?_ _
    refine NoPanic.normal ?_
    exact ⟨rfl, B33, rfl, hL⟩

set_option maxRecDepth 100000 in
set_option maxHeartbeats 4000000 in
theorem refmul_s1 (a b d e m c : Nat → Nat) (qa qb qc : Bool) (ha : Wds a) (hb : Wds b) (hd : Digs d) (he : Digs e) (hm : Digs m) (hc : Wds c)  (h1 : digR (sizeR a) = d) (h2 : digR (sizeR b) = e) (h3 : timesR d e = m) (h4 : widR m = c) (h5 : hiSt m 8 = true) (h6 : lowB a = qa) (h7 : lowB b = qb) (h8 : lowB c = qc) (hg : (qa == qb) = true) (w : World) :
    Calls Try.prog 15 #[.agg #[.int .u64 (a 0), .int .u64 (a 1), .int .u64 (a 2), .int .u64 (a 3)], .agg #[.int .u64 (b 0), .int .u64 (b 1), .int .u64 (b 2), .int .u64 (b 3)]] w fun ee w' => ee = .returned (.tuple #[.agg #[.int .u64 (c 0), .int .u64 (c 1), .int .u64 (c 2), .int .u64 (c 3)], .bool true]) ∧ Below w.heap.size w w' := by
  have Xh1 := Lib.hid h1
  have Xh2 := Lib.hid h2
  have Xh3 := Lib.hid h3
  have Xh4 := Lib.hid h4
  have Xh5 := Lib.hid h5
  have Xh6 := Lib.hid h6
  have Xh7 := Lib.hid h7
  have Xh8 := Lib.hid h8
  clear h1 h2 h3 h4 h5 h6 h7 h8
  have hL := lv_nil w
  go_enter Try.func15, Try.ntmps15
  go_wp2_with fail
  obtain ⟨V1, B2, hV3, hB4, hL⟩ := lv_grow hL (Obj.cells #[.int .u64 (a 0), .int .u64 (a 1), .int .u64 (a 2), .int .u64 (a 3)] 24)
  rw [hV3]
  try rw [hB4]
  obtain ⟨V5, B6, hV7, hB8, hL⟩ := lv_grow hL (Obj.cells #[.int .u64 (b 0), .int .u64 (b 1), .int .u64 (b 2), .int .u64 (b 3)] 24)
  rw [hV7]
  have hs9 : B2 + 1 = B6 := by rw [← hB8, ← hV3, World.size_alloc, hB4]
  try rw [hs9]
  clear hs9
  obtain ⟨V10, B11, hV12, hB13, hL⟩ := lv_grow hL (Obj.cells #[.int .u64 0, .int .u64 0, .int .u64 0, .int .u64 0] 24)
  rw [hV12]
  have hs14 : B6 + 1 = B11 := by rw [← hB13, ← hV7, World.size_alloc, hB8]
  try rw [hs14]
  clear hs14
  clear hV3 hB4 hV7 hB8 hV12 hB13
  refine Code.wp_mono ?_ (refmul_r1 w _ B11 B6 B2 a b d e m ha hb hd he Xh1 Xh2 Xh3 hL)
  rintro ee aa W38 ⟨rfl, B39, rfl, hL2⟩
  clear hL
  have hL := hL2
  clear hL2
  go_wp2_with fail
  obtain ⟨V40, B41, hV42, hB43, hL⟩ := lv_grow hL (Obj.cells #[.int .u64 0, .int .u64 0, .int .u64 0, .int .u64 0, .int .u64 0, .int .u64 0, .int .u64 0, .int .u64 0] 54)
  rw [hV42]
  try rw [hB43]
  clear hV42 hB43
  go_loopw [8, 9] (fun v8 v9 wr => ∃ k : Nat, k ≤ 8 ∧ v9 = .int .i64 k ∧ v8 = .bool (hiSt m k) ∧ Lv w [(B41, Obj.cells #[.int .u64 ((loSt m k) 0), .int .u64 ((loSt m k) 1), .int .u64 ((loSt m k) 2), .int .u64 ((loSt m k) 3), .int .u64 ((loSt m k) 4), .int .u64 ((loSt m k) 5), .int .u64 ((loSt m k) 6), .int .u64 ((loSt m k) 7)] 54 (0, 0)), (B39, Obj.cells #[.int .u64 (m 0), .int .u64 (m 1), .int .u64 (m 2), .int .u64 (m 3), .int .u64 (m 4), .int .u64 (m 5), .int .u64 (m 6), .int .u64 (m 7), .int .u64 (m 8), .int .u64 (m 9), .int .u64 (m 10), .int .u64 (m 11), .int .u64 (m 12), .int .u64 (m 13), .int .u64 (m 14), .int .u64 (m 15)] 61 (0, 0)), (B11, Obj.cells #[.int .u64 0, .int .u64 0, .int .u64 0, .int .u64 0] 24 (0, 0)), (B6, Obj.cells #[.int .u64 (b 0), .int .u64 (b 1), .int .u64 (b 2), .int .u64 (b 3)] 24 (0, 0)), (B2, Obj.cells #[.int .u64 (a 0), .int .u64 (a 1), .int .u64 (a 2), .int .u64 (a 3)] 24 (0, 0))] wr) (fun _ v9 _ => 8 - (intOf v9).toNat)
  case atStart => exact ⟨0, by omega, rfl, rfl, hL⟩
  case round =>
    clear hL
    obtain ⟨k, hk, rfl, rfl, hL⟩ := hrel
    by_cases hlt : k < 8
    · have hki : (k : Int) < 8 := by omega
      have c1 := (lv_at16 hL lm1).cell k (by omega)
      have c2 := (lv_at16 hL lm1).cell (8 + k) (by omega)
      have c3 := (lv_at8 hL lm0).cell k hlt
      have f3 := (lv_at8 hL lm0).frozen k
      have hs := lv_set8 [] hL k (m k) hlt
      rw [loSt_up] at hs
      have HU : Hid (hiSt m (k + 1) = (hiSt m k || decide (0 < m (8 + k)))) := Lib.hid rfl
      obtain ⟨x, hx⟩ : ∃ x, m k = x := ⟨_, rfl⟩
      obtain ⟨y, hy⟩ : ∃ y, m (8 + k) = y := ⟨_, rfl⟩
      obtain ⟨z, hz⟩ : ∃ z, loSt m k k = z := ⟨_, rfl⟩
      rw [hx] at c1 hs
      rw [hy] at c2 HU
      rw [hz] at c3
      clear hx hy hz
      cases hh : hiSt m k with
      | true =>
        rw [hh] at HU
        clear hh c2
        go_wp2
        go_roundw
        case rel => exact ⟨k + 1, by omega, by go_num, by rw [HU.out]; rfl, hs⟩
        case measure => simp [intOf]; omega
      | false =>
        rw [hh] at HU
        clear hh
        have k8 : (8 : Int) + (k : Int) < 16 := by omega
        by_cases hy : 0 < y
        · have hyi : (0 : Int) < (y : Int) := by omega
          have hyd : decide ((0 : Int) < (y : Int)) = true := by simp; omega
          go_wp2
          go_roundw
          case rel => exact ⟨k + 1, by omega, by go_num, by rw [HU.out]; simp [hy], hs⟩
          case measure => simp [intOf]; omega
        · obtain rfl : y = 0 := by omega
          go_wp2
          go_roundw
          case rel => exact ⟨k + 1, by omega, by go_num, by rw [HU.out]; simp, hs⟩
          case measure => simp [intOf]; omega
    · obtain rfl : k = 8 := by omega
      change Lv w [(B41, Obj.cells #[.int .u64 (m 0), .int .u64 (m 1), .int .u64 (m 2), .int .u64 (m 3), .int .u64 (m 4), .int .u64 (m 5), .int .u64 (m 6), .int .u64 (m 7)] 54 (0, 0)), (B39, Obj.cells #[.int .u64 (m 0), .int .u64 (m 1), .int .u64 (m 2), .int .u64 (m 3), .int .u64 (m 4), .int .u64 (m 5), .int .u64 (m 6), .int .u64 (m 7), .int .u64 (m 8), .int .u64 (m 9), .int .u64 (m 10), .int .u64 (m 11), .int .u64 (m 12), .int .u64 (m 13), .int .u64 (m 14), .int .u64 (m 15)] 61 (0, 0)), (B11, Obj.cells #[.int .u64 0, .int .u64 0, .int .u64 0, .int .u64 0] 24 (0, 0)), (B6, Obj.cells #[.int .u64 (b 0), .int .u64 (b 1), .int .u64 (b 2), .int .u64 (b 3)] 24 (0, 0)), (B2, Obj.cells #[.int .u64 (a 0), .int .u64 (a 1), .int .u64 (a 2), .int .u64 (a 3)] 24 (0, 0))] wr at hL
      rw [Xh5.out]
      obtain ⟨q44, q45, q46, q47, q48, q49, q50, q51⟩ := lv_cells8 hL lm0
      go_wp2_with fail
      clear q44 q45 q46 q47 q48 q49 q50 q51
      refine (wide_c hm Xh4.out _).mono ?_
      rintro e W52 ⟨rfl, hB⟩
      replace hL := lv_below hL hB
      clear hB
      go_wp2_with fail
      obtain ⟨V53, B54, hV55, hB56, hL⟩ := lv_grow hL (Obj.cells #[.int .u64 (c 0), .int .u64 (c 1), .int .u64 (c 2), .int .u64 (c 3)] 24)
      rw [hV55]
      try rw [hB56]
      clear hV55 hB56
      refine wp_region_held_drew (S := fun W' => Lv w [(B54, Obj.cells #[.int .u64 (c 0), .int .u64 (c 1), .int .u64 (c 2), .int .u64 (c 3)] 24 (0, 0)), (B41, Obj.cells #[.int .u64 (m 0), .int .u64 (m 1), .int .u64 (m 2), .int .u64 (m 3), .int .u64 (m 4), .int .u64 (m 5), .int .u64 (m 6), .int .u64 (m 7)] 54 (0, 0)), (B39, Obj.cells #[.int .u64 (m 0), .int .u64 (m 1), .int .u64 (m 2), .int .u64 (m 3), .int .u64 (m 4), .int .u64 (m 5), .int .u64 (m 6), .int .u64 (m 7), .int .u64 (m 8), .int .u64 (m 9), .int .u64 (m 10), .int .u64 (m 11), .int .u64 (m 12), .int .u64 (m 13), .int .u64 (m 14), .int .u64 (m 15)] 61 (0, 0)), (B11, Obj.cells #[.int .u64 0, .int .u64 0, .int .u64 0, .int .u64 0] 24 (0, 0)), (B6, Obj.cells #[.int .u64 (b 0), .int .u64 (b 1), .int .u64 (b 2), .int .u64 (b 3)] 24 (0, 0)), (B2, Obj.cells #[.int .u64 (a 0), .int .u64 (a 1), .int .u64 (a 2), .int .u64 (a 3)] 24 (0, 0))] W') (by kernel_rfl) (lv_drew (lv_sub (sk (sk (sk (sk (sk (sk sn)))))) hL)) (fun hHeld => ?_)
      replace hL := lv_drew hL
      obtain ⟨D57, hD58⟩ : ∃ W0, World.drew V53 = W0 := ⟨_, rfl⟩
      rw [hD58] at hHeld hL ⊢
      clear hD58
      refine tk 0 o15_10_0 (v := ?_) ?_ ?_
      rotate_left
      · intro w hSw
        obtain ⟨k0, k1, k2, k3⟩ := lv_cells4 hSw lm5
        delta o15_10_0
        go_simp
        try with_reducible rfl
      try simp only [Act.put, o15_10_0, List.setIfInBounds_toArray, List.set_cons_zero, List.set_cons_succ]
      refine tk 2 o15_10_2 (v := ?_) ?_ ?_
      rotate_left
      · intro w hSw
        obtain ⟨k0, k1, k2, k3⟩ := lv_cells4 hSw lm4
        delta o15_10_2
        go_simp
        try with_reducible rfl
      try simp only [Act.put, o15_10_2, List.setIfInBounds_toArray, List.set_cons_zero, List.set_cons_succ]
      refine rd1 1 o15_10_1 (fun K hK => ?_)
      delta o15_10_1
      go_simp
      refine (low_c ha Xh6.out _).mono ?_
      rintro e W59 ⟨rfl, hBl⟩
      replace hL := lv_below hL hBl
      clear hBl
      refine hK.out _ _ (lv_sub (sk (sk (sk (sk (sk (sk sn)))))) hL) (fun hHeld2 => ?_)
      clear hK K hHeld
      have hHeld := hHeld2
      clear hHeld2
      try simp only [Act.put, o15_10_1, List.setIfInBounds_toArray, List.set_cons_zero, List.set_cons_succ]
      refine rd1 3 o15_10_3 (fun K hK => ?_)
      delta o15_10_3
      go_simp
      refine (low_c hb Xh7.out _).mono ?_
      rintro e W60 ⟨rfl, hBl⟩
      replace hL := lv_below hL hBl
      clear hBl
      refine hK.out _ _ (lv_sub (sk (sk (sk (sk (sk (sk sn)))))) hL) (fun hHeld2 => ?_)
      clear hK K hHeld
      have hHeld := hHeld2
      clear hHeld2
      try simp only [Act.put, o15_10_3, List.setIfInBounds_toArray, List.set_cons_zero, List.set_cons_succ]
      refine tk 4 o15_10_4 (v := ?_) ?_ ?_
      rotate_left
      · intro w hSw
        delta o15_10_4
        go_simp
        try with_reducible rfl
      try simp only [Act.put, o15_10_4, List.setIfInBounds_toArray, List.set_cons_zero, List.set_cons_succ]
      refine wpAnyH_done (by kernel_rfl) ?_ _
      clear hHeld
      go_wp2_with fail
      refine wp_region_held_drew (S := fun W' => Lv w [(B54, Obj.cells #[.int .u64 (c 0), .int .u64 (c 1), .int .u64 (c 2), .int .u64 (c 3)] 24 (0, 0)), (B41, Obj.cells #[.int .u64 (m 0), .int .u64 (m 1), .int .u64 (m 2), .int .u64 (m 3), .int .u64 (m 4), .int .u64 (m 5), .int .u64 (m 6), .int .u64 (m 7)] 54 (0, 0)), (B39, Obj.cells #[.int .u64 (m 0), .int .u64 (m 1), .int .u64 (m 2), .int .u64 (m 3), .int .u64 (m 4), .int .u64 (m 5), .int .u64 (m 6), .int .u64 (m 7), .int .u64 (m 8), .int .u64 (m 9), .int .u64 (m 10), .int .u64 (m 11), .int .u64 (m 12), .int .u64 (m 13), .int .u64 (m 14), .int .u64 (m 15)] 61 (0, 0)), (B6, Obj.cells #[.int .u64 (b 0), .int .u64 (b 1), .int .u64 (b 2), .int .u64 (b 3)] 24 (0, 0)), (B2, Obj.cells #[.int .u64 (a 0), .int .u64 (a 1), .int .u64 (a 2), .int .u64 (a 3)] 24 (0, 0))] W') (by kernel_rfl) (lv_drew (lv_sub (sk (sk (sk (sd (sk (sk sn)))))) hL)) (fun hHeld => ?_)
      replace hL := lv_drew hL
      obtain ⟨D61, hD62⟩ : ∃ W0, World.drew W60 = W0 := ⟨_, rfl⟩
      rw [hD62] at hHeld hL ⊢
      clear hD62
      refine tk 0 o15_11_0 (v := ?_) ?_ ?_
      rotate_left
      · intro w hSw
        obtain ⟨k0, k1, k2, k3⟩ := lv_cells4 hSw lm0
        delta o15_11_0
        go_simp
        try with_reducible rfl
      try simp only [Act.put, o15_11_0, List.setIfInBounds_toArray, List.set_cons_zero, List.set_cons_succ]
      refine tk 1 o15_11_1 (v := ?_) ?_ ?_
      rotate_left
      · intro w hSw
        delta o15_11_1
        go_simp
        try with_reducible rfl
      try simp only [Act.put, o15_11_1, List.setIfInBounds_toArray, List.set_cons_zero, List.set_cons_succ]
      refine tk 2 o15_11_2 (v := ?_) ?_ ?_
      rotate_left
      · intro w hSw
        delta o15_11_2
        go_simp
        try with_reducible rfl
      try simp only [Act.put, o15_11_2, List.setIfInBounds_toArray, List.set_cons_zero, List.set_cons_succ]
      refine tu 3 o15_11_3 ?_
      try simp only [Act.put, o15_11_3, List.setIfInBounds_toArray, List.set_cons_zero, List.set_cons_succ]
      refine rd1 4 o15_11_4 (fun K hK => ?_)
      delta o15_11_4
      go_simp
      refine hK.out _ _ hHeld (fun hHeld2 => ?_)
      clear hK K hHeld
      have hHeld := hHeld2
      clear hHeld2
      try simp only [Act.put, o15_11_4, List.setIfInBounds_toArray, List.set_cons_zero, List.set_cons_succ]
      refine tk 5 o15_11_5 (v := ?_) ?_ ?_
      rotate_left
      · intro w hSw
        delta o15_11_5
        go_simp
        try with_reducible rfl
      try simp only [Act.put, o15_11_5, List.setIfInBounds_toArray, List.set_cons_zero, List.set_cons_succ]
      refine rd1 6 o15_11_6 (fun K hK => ?_)
      obtain ⟨k0, k1, k2, k3⟩ := lv_cells4 hL lm3
      have z0 := lv_frozen hL lm3 0
      have z1 := lv_frozen hL lm3 1
      have z2 := lv_frozen hL lm3 2
      have z3 := lv_frozen hL lm3 3
      delta o15_11_6
      go_simp
      clear k0 z0 k1 z1 k2 z2 k3 z3
      obtain ⟨V63, hVx, hL2⟩ : ∃ V, (World.setCell (World.setCell (World.setCell (World.setCell D61 ⟨B11, 0, none⟩ (.int .u64 (c 0))) ⟨B11, 1, none⟩ (.int .u64 (c 1))) ⟨B11, 2, none⟩ (.int .u64 (c 2))) ⟨B11, 3, none⟩ (.int .u64 (c 3))) = V ∧ Lv w [(B54, Obj.cells #[.int .u64 (c 0), .int .u64 (c 1), .int .u64 (c 2), .int .u64 (c 3)] 24 (0, 0)), (B41, Obj.cells #[.int .u64 (m 0), .int .u64 (m 1), .int .u64 (m 2), .int .u64 (m 3), .int .u64 (m 4), .int .u64 (m 5), .int .u64 (m 6), .int .u64 (m 7)] 54 (0, 0)), (B39, Obj.cells #[.int .u64 (m 0), .int .u64 (m 1), .int .u64 (m 2), .int .u64 (m 3), .int .u64 (m 4), .int .u64 (m 5), .int .u64 (m 6), .int .u64 (m 7), .int .u64 (m 8), .int .u64 (m 9), .int .u64 (m 10), .int .u64 (m 11), .int .u64 (m 12), .int .u64 (m 13), .int .u64 (m 14), .int .u64 (m 15)] 61 (0, 0)), (B11, Obj.cells #[.int .u64 (c 0), .int .u64 (c 1), .int .u64 (c 2), .int .u64 (c 3)] 24 (0, 0)), (B6, Obj.cells #[.int .u64 (b 0), .int .u64 (b 1), .int .u64 (b 2), .int .u64 (b 3)] 24 (0, 0)), (B2, Obj.cells #[.int .u64 (a 0), .int .u64 (a 1), .int .u64 (a 2), .int .u64 (a 3)] 24 (0, 0))] V := ⟨_, rfl, lv_store4 [(B54, Obj.cells #[.int .u64 (c 0), .int .u64 (c 1), .int .u64 (c 2), .int .u64 (c 3)] 24 (0, 0)), (B41, Obj.cells #[.int .u64 (m 0), .int .u64 (m 1), .int .u64 (m 2), .int .u64 (m 3), .int .u64 (m 4), .int .u64 (m 5), .int .u64 (m 6), .int .u64 (m 7)] 54 (0, 0)), (B39, Obj.cells #[.int .u64 (m 0), .int .u64 (m 1), .int .u64 (m 2), .int .u64 (m 3), .int .u64 (m 4), .int .u64 (m 5), .int .u64 (m 6), .int .u64 (m 7), .int .u64 (m 8), .int .u64 (m 9), .int .u64 (m 10), .int .u64 (m 11), .int .u64 (m 12), .int .u64 (m 13), .int .u64 (m 14), .int .u64 (m 15)] 61 (0, 0))] hL _ _ _ _⟩
      rw [hVx]
      clear hVx hL
      have hL := hL2
      clear hL2
      refine hK.out _ _ (lv_sub (sk (sk (sk (sd (sk (sk sn)))))) hL) (fun hHeld2 => ?_)
      clear hK K hHeld
      have hHeld := hHeld2
      clear hHeld2
      try simp only [Act.put, o15_11_6, List.setIfInBounds_toArray, List.set_cons_zero, List.set_cons_succ]
      refine tk 7 o15_11_7 (v := ?_) ?_ ?_
      rotate_left
      · intro w hSw
        delta o15_11_7
        go_simp
        try with_reducible rfl
      try simp only [Act.put, o15_11_7, List.setIfInBounds_toArray, List.set_cons_zero, List.set_cons_succ]
      refine wpAnyH_done (by kernel_rfl) ?_ _
      clear hHeld
      go_wp2_with fail
      obtain ⟨k64, k65, k66, k67⟩ := lv_cells4 hL lm3
      refine bodyPost_ret (v := .tuple #[.agg #[.int .u64 (c 0), .int .u64 (c 1), .int .u64 (c 2), .int .u64 (c 3)], .bool true]) (by simp [results, Try.results15, go_sem, k64, k65, k66, k67]) rfl ⟨rfl, hL.2.2.2⟩

set_option maxRecDepth 100000 in
set_option maxHeartbeats 4000000 in
theorem refmul_s0 (a b d e m c : Nat → Nat) (qa qb qc : Bool) (ha : Wds a) (hb : Wds b) (hd : Digs d) (he : Digs e) (hm : Digs m) (hc : Wds c)  (h1 : digR (sizeR a) = d) (h2 : digR (sizeR b) = e) (h3 : timesR d e = m) (h4 : widR m = c) (h5 : hiSt m 8 = false) (h6 : lowB a = qa) (h7 : lowB b = qb) (h8 : lowB c = qc) (hg : (qa == qb) = true) (w : World) :
    Calls Try.prog 15 #[.agg #[.int .u64 (a 0), .int .u64 (a 1), .int .u64 (a 2), .int .u64 (a 3)], .agg #[.int .u64 (b 0), .int .u64 (b 1), .int .u64 (b 2), .int .u64 (b 3)]] w fun ee w' => ee = .returned (.tuple #[.agg #[.int .u64 (c 0), .int .u64 (c 1), .int .u64 (c 2), .int .u64 (c 3)], .bool qc]) ∧ Below w.heap.size w w' := by
  have Xh1 := Lib.hid h1
  have Xh2 := Lib.hid h2
  have Xh3 := Lib.hid h3
  have Xh4 := Lib.hid h4
  have Xh5 := Lib.hid h5
  have Xh6 := Lib.hid h6
  have Xh7 := Lib.hid h7
  have Xh8 := Lib.hid h8
  clear h1 h2 h3 h4 h5 h6 h7 h8
  have hL := lv_nil w
  go_enter Try.func15, Try.ntmps15
  go_wp2_with fail
  obtain ⟨V1, B2, hV3, hB4, hL⟩ := lv_grow hL (Obj.cells #[.int .u64 (a 0), .int .u64 (a 1), .int .u64 (a 2), .int .u64 (a 3)] 24)
  rw [hV3]
  try rw [hB4]
  obtain ⟨V5, B6, hV7, hB8, hL⟩ := lv_grow hL (Obj.cells #[.int .u64 (b 0), .int .u64 (b 1), .int .u64 (b 2), .int .u64 (b 3)] 24)
  rw [hV7]
  have hs9 : B2 + 1 = B6 := by rw [← hB8, ← hV3, World.size_alloc, hB4]
  try rw [hs9]
  clear hs9
  obtain ⟨V10, B11, hV12, hB13, hL⟩ := lv_grow hL (Obj.cells #[.int .u64 0, .int .u64 0, .int .u64 0, .int .u64 0] 24)
  rw [hV12]
  have hs14 : B6 + 1 = B11 := by rw [← hB13, ← hV7, World.size_alloc, hB8]
  try rw [hs14]
  clear hs14
  clear hV3 hB4 hV7 hB8 hV12 hB13
  refine Code.wp_mono ?_ (refmul_r1 w _ B11 B6 B2 a b d e m ha hb hd he Xh1 Xh2 Xh3 hL)
  rintro ee aa W17 ⟨rfl, B18, rfl, hL2⟩
  clear hL
  have hL := hL2
  clear hL2
  go_wp2_with fail
  obtain ⟨V19, B20, hV21, hB22, hL⟩ := lv_grow hL (Obj.cells #[.int .u64 0, .int .u64 0, .int .u64 0, .int .u64 0, .int .u64 0, .int .u64 0, .int .u64 0, .int .u64 0] 54)
  rw [hV21]
  try rw [hB22]
  clear hV21 hB22
  go_loopw [8, 9] (fun v8 v9 wr => ∃ k : Nat, k ≤ 8 ∧ v9 = .int .i64 k ∧ v8 = .bool (hiSt m k) ∧ Lv w [(B20, Obj.cells #[.int .u64 ((loSt m k) 0), .int .u64 ((loSt m k) 1), .int .u64 ((loSt m k) 2), .int .u64 ((loSt m k) 3), .int .u64 ((loSt m k) 4), .int .u64 ((loSt m k) 5), .int .u64 ((loSt m k) 6), .int .u64 ((loSt m k) 7)] 54 (0, 0)), (B18, Obj.cells #[.int .u64 (m 0), .int .u64 (m 1), .int .u64 (m 2), .int .u64 (m 3), .int .u64 (m 4), .int .u64 (m 5), .int .u64 (m 6), .int .u64 (m 7), .int .u64 (m 8), .int .u64 (m 9), .int .u64 (m 10), .int .u64 (m 11), .int .u64 (m 12), .int .u64 (m 13), .int .u64 (m 14), .int .u64 (m 15)] 61 (0, 0)), (B11, Obj.cells #[.int .u64 0, .int .u64 0, .int .u64 0, .int .u64 0] 24 (0, 0)), (B6, Obj.cells #[.int .u64 (b 0), .int .u64 (b 1), .int .u64 (b 2), .int .u64 (b 3)] 24 (0, 0)), (B2, Obj.cells #[.int .u64 (a 0), .int .u64 (a 1), .int .u64 (a 2), .int .u64 (a 3)] 24 (0, 0))] wr) (fun _ v9 _ => 8 - (intOf v9).toNat)
  case atStart => exact ⟨0, by omega, rfl, rfl, hL⟩
  case round =>
    clear hL
    obtain ⟨k, hk, rfl, rfl, hL⟩ := hrel
    by_cases hlt : k < 8
    · have hki : (k : Int) < 8 := by omega
      have c1 := (lv_at16 hL lm1).cell k (by omega)
      have c2 := (lv_at16 hL lm1).cell (8 + k) (by omega)
      have c3 := (lv_at8 hL lm0).cell k hlt
      have f3 := (lv_at8 hL lm0).frozen k
      have hs := lv_set8 [] hL k (m k) hlt
      rw [loSt_up] at hs
      have HU : Hid (hiSt m (k + 1) = (hiSt m k || decide (0 < m (8 + k)))) := Lib.hid rfl
      obtain ⟨x, hx⟩ : ∃ x, m k = x := ⟨_, rfl⟩
      obtain ⟨y, hy⟩ : ∃ y, m (8 + k) = y := ⟨_, rfl⟩
      obtain ⟨z, hz⟩ : ∃ z, loSt m k k = z := ⟨_, rfl⟩
      rw [hx] at c1 hs
      rw [hy] at c2 HU
      rw [hz] at c3
      clear hx hy hz
      cases hh : hiSt m k with
      | true =>
        rw [hh] at HU
        clear hh c2
        go_wp2
        go_roundw
        case rel => exact ⟨k + 1, by omega, by go_num, by rw [HU.out]; rfl, hs⟩
        case measure => simp [intOf]; omega
      | false =>
        rw [hh] at HU
        clear hh
        have k8 : (8 : Int) + (k : Int) < 16 := by omega
        by_cases hy : 0 < y
        · have hyi : (0 : Int) < (y : Int) := by omega
          have hyd : decide ((0 : Int) < (y : Int)) = true := by simp; omega
          go_wp2
          go_roundw
          case rel => exact ⟨k + 1, by omega, by go_num, by rw [HU.out]; simp [hy], hs⟩
          case measure => simp [intOf]; omega
        · obtain rfl : y = 0 := by omega
          go_wp2
          go_roundw
          case rel => exact ⟨k + 1, by omega, by go_num, by rw [HU.out]; simp, hs⟩
          case measure => simp [intOf]; omega
    · obtain rfl : k = 8 := by omega
      change Lv w [(B20, Obj.cells #[.int .u64 (m 0), .int .u64 (m 1), .int .u64 (m 2), .int .u64 (m 3), .int .u64 (m 4), .int .u64 (m 5), .int .u64 (m 6), .int .u64 (m 7)] 54 (0, 0)), (B18, Obj.cells #[.int .u64 (m 0), .int .u64 (m 1), .int .u64 (m 2), .int .u64 (m 3), .int .u64 (m 4), .int .u64 (m 5), .int .u64 (m 6), .int .u64 (m 7), .int .u64 (m 8), .int .u64 (m 9), .int .u64 (m 10), .int .u64 (m 11), .int .u64 (m 12), .int .u64 (m 13), .int .u64 (m 14), .int .u64 (m 15)] 61 (0, 0)), (B11, Obj.cells #[.int .u64 0, .int .u64 0, .int .u64 0, .int .u64 0] 24 (0, 0)), (B6, Obj.cells #[.int .u64 (b 0), .int .u64 (b 1), .int .u64 (b 2), .int .u64 (b 3)] 24 (0, 0)), (B2, Obj.cells #[.int .u64 (a 0), .int .u64 (a 1), .int .u64 (a 2), .int .u64 (a 3)] 24 (0, 0))] wr at hL
      rw [Xh5.out]
      obtain ⟨q23, q24, q25, q26, q27, q28, q29, q30⟩ := lv_cells8 hL lm0
      go_wp2_with fail
      clear q23 q24 q25 q26 q27 q28 q29 q30
      refine (wide_c hm Xh4.out _).mono ?_
      rintro e W31 ⟨rfl, hB⟩
      replace hL := lv_below hL hB
      clear hB
      go_wp2_with fail
      obtain ⟨V32, B33, hV34, hB35, hL⟩ := lv_grow hL (Obj.cells #[.int .u64 (c 0), .int .u64 (c 1), .int .u64 (c 2), .int .u64 (c 3)] 24)
      rw [hV34]
      try rw [hB35]
      clear hV34 hB35
      refine wp_region_held_drew (S := fun W' => Lv w [(B33, Obj.cells #[.int .u64 (c 0), .int .u64 (c 1), .int .u64 (c 2), .int .u64 (c 3)] 24 (0, 0)), (B20, Obj.cells #[.int .u64 (m 0), .int .u64 (m 1), .int .u64 (m 2), .int .u64 (m 3), .int .u64 (m 4), .int .u64 (m 5), .int .u64 (m 6), .int .u64 (m 7)] 54 (0, 0)), (B18, Obj.cells #[.int .u64 (m 0), .int .u64 (m 1), .int .u64 (m 2), .int .u64 (m 3), .int .u64 (m 4), .int .u64 (m 5), .int .u64 (m 6), .int .u64 (m 7), .int .u64 (m 8), .int .u64 (m 9), .int .u64 (m 10), .int .u64 (m 11), .int .u64 (m 12), .int .u64 (m 13), .int .u64 (m 14), .int .u64 (m 15)] 61 (0, 0)), (B11, Obj.cells #[.int .u64 0, .int .u64 0, .int .u64 0, .int .u64 0] 24 (0, 0)), (B6, Obj.cells #[.int .u64 (b 0), .int .u64 (b 1), .int .u64 (b 2), .int .u64 (b 3)] 24 (0, 0)), (B2, Obj.cells #[.int .u64 (a 0), .int .u64 (a 1), .int .u64 (a 2), .int .u64 (a 3)] 24 (0, 0))] W') (by kernel_rfl) (lv_drew (lv_sub (sk (sk (sk (sk (sk (sk sn)))))) hL)) (fun hHeld => ?_)
      replace hL := lv_drew hL
      obtain ⟨D36, hD37⟩ : ∃ W0, World.drew V32 = W0 := ⟨_, rfl⟩
      rw [hD37] at hHeld hL ⊢
      clear hD37
      refine tk 0 o15_10_0 (v := ?_) ?_ ?_
      rotate_left
      · intro w hSw
        obtain ⟨k0, k1, k2, k3⟩ := lv_cells4 hSw lm5
        delta o15_10_0
        go_simp
        try with_reducible rfl
      try simp only [Act.put, o15_10_0, List.setIfInBounds_toArray, List.set_cons_zero, List.set_cons_succ]
      refine tk 2 o15_10_2 (v := ?_) ?_ ?_
      rotate_left
      · intro w hSw
        obtain ⟨k0, k1, k2, k3⟩ := lv_cells4 hSw lm4
        delta o15_10_2
        go_simp
        try with_reducible rfl
      try simp only [Act.put, o15_10_2, List.setIfInBounds_toArray, List.set_cons_zero, List.set_cons_succ]
      refine rd1 1 o15_10_1 (fun K hK => ?_)
      delta o15_10_1
      go_simp
      refine (low_c ha Xh6.out _).mono ?_
      rintro e W38 ⟨rfl, hBl⟩
      replace hL := lv_below hL hBl
      clear hBl
      refine hK.out _ _ (lv_sub (sk (sk (sk (sk (sk (sk sn)))))) hL) (fun hHeld2 => ?_)
      clear hK K hHeld
      have hHeld := hHeld2
      clear hHeld2
      try simp only [Act.put, o15_10_1, List.setIfInBounds_toArray, List.set_cons_zero, List.set_cons_succ]
      refine rd1 3 o15_10_3 (fun K hK => ?_)
      delta o15_10_3
      go_simp
      refine (low_c hb Xh7.out _).mono ?_
      rintro e W39 ⟨rfl, hBl⟩
      replace hL := lv_below hL hBl
      clear hBl
      refine hK.out _ _ (lv_sub (sk (sk (sk (sk (sk (sk sn)))))) hL) (fun hHeld2 => ?_)
      clear hK K hHeld
      have hHeld := hHeld2
      clear hHeld2
      try simp only [Act.put, o15_10_3, List.setIfInBounds_toArray, List.set_cons_zero, List.set_cons_succ]
      refine tk 4 o15_10_4 (v := ?_) ?_ ?_
      rotate_left
      · intro w hSw
        delta o15_10_4
        go_simp
        try with_reducible rfl
      try simp only [Act.put, o15_10_4, List.setIfInBounds_toArray, List.set_cons_zero, List.set_cons_succ]
      refine wpAnyH_done (by kernel_rfl) ?_ _
      clear hHeld
      go_wp2_with fail
      refine wp_region_held_drew (S := fun W' => Lv w [(B33, Obj.cells #[.int .u64 (c 0), .int .u64 (c 1), .int .u64 (c 2), .int .u64 (c 3)] 24 (0, 0)), (B20, Obj.cells #[.int .u64 (m 0), .int .u64 (m 1), .int .u64 (m 2), .int .u64 (m 3), .int .u64 (m 4), .int .u64 (m 5), .int .u64 (m 6), .int .u64 (m 7)] 54 (0, 0)), (B18, Obj.cells #[.int .u64 (m 0), .int .u64 (m 1), .int .u64 (m 2), .int .u64 (m 3), .int .u64 (m 4), .int .u64 (m 5), .int .u64 (m 6), .int .u64 (m 7), .int .u64 (m 8), .int .u64 (m 9), .int .u64 (m 10), .int .u64 (m 11), .int .u64 (m 12), .int .u64 (m 13), .int .u64 (m 14), .int .u64 (m 15)] 61 (0, 0)), (B6, Obj.cells #[.int .u64 (b 0), .int .u64 (b 1), .int .u64 (b 2), .int .u64 (b 3)] 24 (0, 0)), (B2, Obj.cells #[.int .u64 (a 0), .int .u64 (a 1), .int .u64 (a 2), .int .u64 (a 3)] 24 (0, 0))] W') (by kernel_rfl) (lv_drew (lv_sub (sk (sk (sk (sd (sk (sk sn)))))) hL)) (fun hHeld => ?_)
      replace hL := lv_drew hL
      obtain ⟨D40, hD41⟩ : ∃ W0, World.drew W39 = W0 := ⟨_, rfl⟩
      rw [hD41] at hHeld hL ⊢
      clear hD41
      refine tk 0 o15_11_0 (v := ?_) ?_ ?_
      rotate_left
      · intro w hSw
        obtain ⟨k0, k1, k2, k3⟩ := lv_cells4 hSw lm0
        delta o15_11_0
        go_simp
        try with_reducible rfl
      try simp only [Act.put, o15_11_0, List.setIfInBounds_toArray, List.set_cons_zero, List.set_cons_succ]
      refine tk 1 o15_11_1 (v := ?_) ?_ ?_
      rotate_left
      · intro w hSw
        delta o15_11_1
        go_simp
        try with_reducible rfl
      try simp only [Act.put, o15_11_1, List.setIfInBounds_toArray, List.set_cons_zero, List.set_cons_succ]
      refine tk 2 o15_11_2 (v := ?_) ?_ ?_
      rotate_left
      · intro w hSw
        delta o15_11_2
        go_simp
        try with_reducible rfl
      try simp only [Act.put, o15_11_2, List.setIfInBounds_toArray, List.set_cons_zero, List.set_cons_succ]
      refine tk 3 o15_11_3 (v := ?_) ?_ ?_
      rotate_left
      · intro w hSw
        obtain ⟨k0, k1, k2, k3⟩ := lv_cells4 hSw lm0
        delta o15_11_3
        go_simp
        try with_reducible rfl
      try simp only [Act.put, o15_11_3, List.setIfInBounds_toArray, List.set_cons_zero, List.set_cons_succ]
      refine rd1 4 o15_11_4 (fun K hK => ?_)
      delta o15_11_4
      go_simp
      refine (low_c hc Xh8.out _).mono ?_
      rintro e W42 ⟨rfl, hBl⟩
      replace hL := lv_below hL hBl
      clear hBl
      refine hK.out _ _ (lv_sub (sk (sk (sk (sd (sk (sk sn)))))) hL) (fun hHeld2 => ?_)
      clear hK K hHeld
      have hHeld := hHeld2
      clear hHeld2
      try simp only [Act.put, o15_11_4, List.setIfInBounds_toArray, List.set_cons_zero, List.set_cons_succ]
      refine tk 5 o15_11_5 (v := ?_) ?_ ?_
      rotate_left
      · intro w hSw
        delta o15_11_5
        go_simp
        try with_reducible rfl
      try simp only [Act.put, o15_11_5, List.setIfInBounds_toArray, List.set_cons_zero, List.set_cons_succ]
      refine rd1 6 o15_11_6 (fun K hK => ?_)
      obtain ⟨k0, k1, k2, k3⟩ := lv_cells4 hL lm3
      have z0 := lv_frozen hL lm3 0
      have z1 := lv_frozen hL lm3 1
      have z2 := lv_frozen hL lm3 2
      have z3 := lv_frozen hL lm3 3
      delta o15_11_6
      go_simp
      clear k0 z0 k1 z1 k2 z2 k3 z3
      obtain ⟨V43, hVx, hL2⟩ : ∃ V, (World.setCell (World.setCell (World.setCell (World.setCell W42 ⟨B11, 0, none⟩ (.int .u64 (c 0))) ⟨B11, 1, none⟩ (.int .u64 (c 1))) ⟨B11, 2, none⟩ (.int .u64 (c 2))) ⟨B11, 3, none⟩ (.int .u64 (c 3))) = V ∧ Lv w [(B33, Obj.cells #[.int .u64 (c 0), .int .u64 (c 1), .int .u64 (c 2), .int .u64 (c 3)] 24 (0, 0)), (B20, Obj.cells #[.int .u64 (m 0), .int .u64 (m 1), .int .u64 (m 2), .int .u64 (m 3), .int .u64 (m 4), .int .u64 (m 5), .int .u64 (m 6), .int .u64 (m 7)] 54 (0, 0)), (B18, Obj.cells #[.int .u64 (m 0), .int .u64 (m 1), .int .u64 (m 2), .int .u64 (m 3), .int .u64 (m 4), .int .u64 (m 5), .int .u64 (m 6), .int .u64 (m 7), .int .u64 (m 8), .int .u64 (m 9), .int .u64 (m 10), .int .u64 (m 11), .int .u64 (m 12), .int .u64 (m 13), .int .u64 (m 14), .int .u64 (m 15)] 61 (0, 0)), (B11, Obj.cells #[.int .u64 (c 0), .int .u64 (c 1), .int .u64 (c 2), .int .u64 (c 3)] 24 (0, 0)), (B6, Obj.cells #[.int .u64 (b 0), .int .u64 (b 1), .int .u64 (b 2), .int .u64 (b 3)] 24 (0, 0)), (B2, Obj.cells #[.int .u64 (a 0), .int .u64 (a 1), .int .u64 (a 2), .int .u64 (a 3)] 24 (0, 0))] V := ⟨_, rfl, lv_store4 [(B33, Obj.cells #[.int .u64 (c 0), .int .u64 (c 1), .int .u64 (c 2), .int .u64 (c 3)] 24 (0, 0)), (B20, Obj.cells #[.int .u64 (m 0), .int .u64 (m 1), .int .u64 (m 2), .int .u64 (m 3), .int .u64 (m 4), .int .u64 (m 5), .int .u64 (m 6), .int .u64 (m 7)] 54 (0, 0)), (B18, Obj.cells #[.int .u64 (m 0), .int .u64 (m 1), .int .u64 (m 2), .int .u64 (m 3), .int .u64 (m 4), .int .u64 (m 5), .int .u64 (m 6), .int .u64 (m 7), .int .u64 (m 8), .int .u64 (m 9), .int .u64 (m 10), .int .u64 (m 11), .int .u64 (m 12), .int .u64 (m 13), .int .u64 (m 14), .int .u64 (m 15)] 61 (0, 0))] hL _ _ _ _⟩
      rw [hVx]
      clear hVx hL
      have hL := hL2
      clear hL2
      refine hK.out _ _ (lv_sub (sk (sk (sk (sd (sk (sk sn)))))) hL) (fun hHeld2 => ?_)
      clear hK K hHeld
      have hHeld := hHeld2
      clear hHeld2
      try simp only [Act.put, o15_11_6, List.setIfInBounds_toArray, List.set_cons_zero, List.set_cons_succ]
      refine tk 7 o15_11_7 (v := ?_) ?_ ?_
      rotate_left
      · intro w hSw
        delta o15_11_7
        go_simp
        try with_reducible rfl
      try simp only [Act.put, o15_11_7, List.setIfInBounds_toArray, List.set_cons_zero, List.set_cons_succ]
      refine wpAnyH_done (by kernel_rfl) ?_ _
      clear hHeld
      go_wp2_with fail
      obtain ⟨k44, k45, k46, k47⟩ := lv_cells4 hL lm3
      refine bodyPost_ret (v := .tuple #[.agg #[.int .u64 (c 0), .int .u64 (c 1), .int .u64 (c 2), .int .u64 (c 3)], .bool qc]) (by simp [results, Try.results15, go_sem, k44, k45, k46, k47]) rfl ⟨rfl, hL.2.2.2⟩

def o15_13_0 : Oper := { dst := some 53, op := Go.Op.load 24 (Go.Operand.tmp 11), type := 24, pos := "ref.go:118", after := #[], guard := none }
def o15_13_1 : Oper := { dst := some 54, op := Go.Op.move (Go.Operand.tmp 8), type := 4, pos := "ref.go:118", after := #[], guard := none }
def o15_13_2 : Oper := { dst := some 55, op := Go.Op.move (Go.Operand.tmp 54), type := 4, pos := "ref.go:118", after := #[{ on := 1, ground := Go.Ground.data }], guard := none }
def o15_13_3 : Oper := { dst := some 56, op := Go.Op.load 24 (Go.Operand.tmp 10), type := 24, pos := "ref.go:118", after := #[{ on := 2, ground := Go.Ground.guard }], guard := some (2, false) }
def o15_13_4 : Oper := { dst := some 57, op := Go.Op.build 24 #[], type := 24, pos := "ref.go:118", after := #[{ on := 2, ground := Go.Ground.guard }], guard := some (2, false) }
def o15_13_5 : Oper := { dst := some 58, op := Go.Op.binOp Go.BinOp.neq 24 (Go.Operand.tmp 56) (Go.Operand.tmp 57) 24, type := 4, pos := "ref.go:118", after := #[{ on := 3, ground := Go.Ground.data }, { on := 4, ground := Go.Ground.data }, { on := 2, ground := Go.Ground.guard }], guard := some (2, false) }
def o15_13_6 : Oper := { dst := some 59, op := Go.Op.move (Go.Operand.tmp 58), type := 4, pos := "ref.go:118", after := #[{ on := 5, ground := Go.Ground.data }, { on := 2, ground := Go.Ground.chain }, { on := 2, ground := Go.Ground.guard }], guard := some (2, false) }
def o15_13_7 : Oper := { dst := some 60, op := Go.Op.load 24 (Go.Operand.tmp 11), type := 24, pos := "ref.go:118", after := #[{ on := 6, ground := Go.Ground.guard }], guard := some (6, true) }
def o15_13_8 : Oper := { dst := some 61, op := Go.Op.call { callee := Go.Callee.value (Go.Operand.func 52), args := #[Go.Operand.tmp 60], argTypes := #[24] }, type := 4, pos := "ref.go:118", after := #[{ on := 7, ground := Go.Ground.data }, { on := 6, ground := Go.Ground.chain }, { on := 6, ground := Go.Ground.guard }], guard := some (6, true) }
def o15_13_9 : Oper := { dst := some 62, op := Go.Op.unOp Go.UnOp.not 4 (Go.Operand.tmp 61), type := 4, pos := "ref.go:118", after := #[{ on := 8, ground := Go.Ground.data }, { on := 6, ground := Go.Ground.guard }, { on := 12, ground := Go.Ground.gcOnly Go.Departure.lateStores }], guard := some (6, true) }
def o15_13_10 : Oper := { dst := some 63, op := Go.Op.pick (Go.Operand.tmp 59) (Go.Operand.tmp 62) (Go.Operand.const (Go.Value.bool false)), type := 4, pos := "ref.go:118", after := #[{ on := 6, ground := Go.Ground.data }, { on := 9, ground := Go.Ground.data }, { on := 2, ground := Go.Ground.guard }, { on := 12, ground := Go.Ground.gcOnly Go.Departure.lateStores }], guard := some (2, false) }
def o15_13_11 : Oper := { dst := some 64, op := Go.Op.pick (Go.Operand.tmp 55) (Go.Operand.const (Go.Value.bool true)) (Go.Operand.tmp 63), type := 4, pos := "ref.go:118", after := #[{ on := 2, ground := Go.Ground.data }, { on := 10, ground := Go.Ground.data }, { on := 12, ground := Go.Ground.gcOnly Go.Departure.lateStores }], guard := none }
def o15_13_12 : Oper := { dst := none, op := Go.Op.store 24 (Go.Operand.tmp 4) (Go.Operand.tmp 53), type := 0, pos := "ref.go:118", after := #[{ on := 0, ground := Go.Ground.data }, { on := 8, ground := Go.Ground.chain }, { on := 0, ground := Go.Ground.phase }, { on := 1, ground := Go.Ground.textOnly Go.Departure.lateStores }, { on := 2, ground := Go.Ground.textOnly Go.Departure.lateStores }, { on := 3, ground := Go.Ground.textOnly Go.Departure.lateStores }, { on := 4, ground := Go.Ground.textOnly Go.Departure.lateStores }, { on := 5, ground := Go.Ground.textOnly Go.Departure.lateStores }, { on := 6, ground := Go.Ground.textOnly Go.Departure.lateStores }, { on := 7, ground := Go.Ground.textOnly Go.Departure.lateStores }, { on := 8, ground := Go.Ground.textOnly Go.Departure.lateStoresUnsure }, { on := 9, ground := Go.Ground.textOnly Go.Departure.lateStores }, { on := 10, ground := Go.Ground.textOnly Go.Departure.lateStores }, { on := 11, ground := Go.Ground.textOnly Go.Departure.lateStores }], guard := none }
def o15_13_13 : Oper := { dst := some 5, op := Go.Op.assign (Go.Operand.tmp 64), type := 4, pos := "ref.go:118", after := #[{ on := 11, ground := Go.Ground.data }, { on := 12, ground := Go.Ground.chain }, { on := 0, ground := Go.Ground.phase }, { on := 1, ground := Go.Ground.phase }, { on := 2, ground := Go.Ground.phase }, { on := 3, ground := Go.Ground.phase }, { on := 4, ground := Go.Ground.phase }, { on := 5, ground := Go.Ground.phase }, { on := 6, ground := Go.Ground.phase }, { on := 7, ground := Go.Ground.phase }, { on := 8, ground := Go.Ground.phase }, { on := 9, ground := Go.Ground.phase }, { on := 10, ground := Go.Ground.phase }, { on := 11, ground := Go.Ground.phase }, { on := 12, ground := Go.Ground.phase }], guard := none }
attribute [local go_sem] o15_13_0 o15_13_1 o15_13_2 o15_13_3 o15_13_4 o15_13_5 o15_13_6 o15_13_7 o15_13_8 o15_13_9 o15_13_10 o15_13_11 o15_13_12 o15_13_13
set_option maxRecDepth 100000 in
set_option maxHeartbeats 4000000 in
theorem refmul_d1 (a b d e m c n : Nat → Nat) (qa qb qc qn o : Bool) (ha : Wds a) (hb : Wds b) (hd : Digs d) (he : Digs e) (hm : Digs m) (hc : Wds c) (hn : Wds n) (h1 : digR (sizeR a) = d) (h2 : digR (sizeR b) = e) (h3 : timesR d e = m) (h4 : widR m = c) (h5 : hiSt m 8 = true) (h6 : lowB a = qa) (h7 : lowB b = qb) (h8 : lowB c = qc) (h9 : lowB n = qn) (h10 : negR c = n) (h11 : negO c = o) (hg : (qa == qb) = false) (w : World) :
    Calls Try.prog 15 #[.agg #[.int .u64 (a 0), .int .u64 (a 1), .int .u64 (a 2), .int .u64 (a 3)], .agg #[.int .u64 (b 0), .int .u64 (b 1), .int .u64 (b 2), .int .u64 (b 3)]] w fun ee w' => ee = .returned (.tuple #[.agg #[.int .u64 (n 0), .int .u64 (n 1), .int .u64 (n 2), .int .u64 (n 3)], .bool true]) ∧ Below w.heap.size w w' := by
  have Xh1 := Lib.hid h1
  have Xh2 := Lib.hid h2
  have Xh3 := Lib.hid h3
  have Xh4 := Lib.hid h4
  have Xh5 := Lib.hid h5
  have Xh6 := Lib.hid h6
  have Xh7 := Lib.hid h7
  have Xh8 := Lib.hid h8
  have Xh9 := Lib.hid h9
  have Xh10 := Lib.hid h10
  have Xh11 := Lib.hid h11
  clear h1 h2 h3 h4 h5 h6 h7 h8 h9 h10 h11
  have hL := lv_nil w
  go_enter Try.func15, Try.ntmps15
  go_wp2_with fail
  obtain ⟨V1, B2, hV3, hB4, hL⟩ := lv_grow hL (Obj.cells #[.int .u64 (a 0), .int .u64 (a 1), .int .u64 (a 2), .int .u64 (a 3)] 24)
  rw [hV3]
  try rw [hB4]
  obtain ⟨V5, B6, hV7, hB8, hL⟩ := lv_grow hL (Obj.cells #[.int .u64 (b 0), .int .u64 (b 1), .int .u64 (b 2), .int .u64 (b 3)] 24)
  rw [hV7]
  have hs9 : B2 + 1 = B6 := by rw [← hB8, ← hV3, World.size_alloc, hB4]
  try rw [hs9]
  clear hs9
  obtain ⟨V10, B11, hV12, hB13, hL⟩ := lv_grow hL (Obj.cells #[.int .u64 0, .int .u64 0, .int .u64 0, .int .u64 0] 24)
  rw [hV12]
  have hs14 : B6 + 1 = B11 := by rw [← hB13, ← hV7, World.size_alloc, hB8]
  try rw [hs14]
  clear hs14
  clear hV3 hB4 hV7 hB8 hV12 hB13
  refine Code.wp_mono ?_ (refmul_r1 w _ B11 B6 B2 a b d e m ha hb hd he Xh1 Xh2 Xh3 hL)
  rintro ee aa W17 ⟨rfl, B18, rfl, hL2⟩
  clear hL
  have hL := hL2
  clear hL2
  go_wp2_with fail
  obtain ⟨V19, B20, hV21, hB22, hL⟩ := lv_grow hL (Obj.cells #[.int .u64 0, .int .u64 0, .int .u64 0, .int .u64 0, .int .u64 0, .int .u64 0, .int .u64 0, .int .u64 0] 54)
  rw [hV21]
  try rw [hB22]
  clear hV21 hB22
  go_loopw [8, 9] (fun v8 v9 wr => ∃ k : Nat, k ≤ 8 ∧ v9 = .int .i64 k ∧ v8 = .bool (hiSt m k) ∧ Lv w [(B20, Obj.cells #[.int .u64 ((loSt m k) 0), .int .u64 ((loSt m k) 1), .int .u64 ((loSt m k) 2), .int .u64 ((loSt m k) 3), .int .u64 ((loSt m k) 4), .int .u64 ((loSt m k) 5), .int .u64 ((loSt m k) 6), .int .u64 ((loSt m k) 7)] 54 (0, 0)), (B18, Obj.cells #[.int .u64 (m 0), .int .u64 (m 1), .int .u64 (m 2), .int .u64 (m 3), .int .u64 (m 4), .int .u64 (m 5), .int .u64 (m 6), .int .u64 (m 7), .int .u64 (m 8), .int .u64 (m 9), .int .u64 (m 10), .int .u64 (m 11), .int .u64 (m 12), .int .u64 (m 13), .int .u64 (m 14), .int .u64 (m 15)] 61 (0, 0)), (B11, Obj.cells #[.int .u64 0, .int .u64 0, .int .u64 0, .int .u64 0] 24 (0, 0)), (B6, Obj.cells #[.int .u64 (b 0), .int .u64 (b 1), .int .u64 (b 2), .int .u64 (b 3)] 24 (0, 0)), (B2, Obj.cells #[.int .u64 (a 0), .int .u64 (a 1), .int .u64 (a 2), .int .u64 (a 3)] 24 (0, 0))] wr) (fun _ v9 _ => 8 - (intOf v9).toNat)
  case atStart => exact ⟨0, by omega, rfl, rfl, hL⟩
  case round =>
    clear hL
    obtain ⟨k, hk, rfl, rfl, hL⟩ := hrel
    by_cases hlt : k < 8
    · have hki : (k : Int) < 8 := by omega
      have c1 := (lv_at16 hL lm1).cell k (by omega)
      have c2 := (lv_at16 hL lm1).cell (8 + k) (by omega)
      have c3 := (lv_at8 hL lm0).cell k hlt
      have f3 := (lv_at8 hL lm0).frozen k
      have hs := lv_set8 [] hL k (m k) hlt
      rw [loSt_up] at hs
      have HU : Hid (hiSt m (k + 1) = (hiSt m k || decide (0 < m (8 + k)))) := Lib.hid rfl
      obtain ⟨x, hx⟩ : ∃ x, m k = x := ⟨_, rfl⟩
      obtain ⟨y, hy⟩ : ∃ y, m (8 + k) = y := ⟨_, rfl⟩
      obtain ⟨z, hz⟩ : ∃ z, loSt m k k = z := ⟨_, rfl⟩
      rw [hx] at c1 hs
      rw [hy] at c2 HU
      rw [hz] at c3
      clear hx hy hz
      cases hh : hiSt m k with
      | true =>
        rw [hh] at HU
        clear hh c2
        go_wp2
        go_roundw
        case rel => exact ⟨k + 1, by omega, by go_num, by rw [HU.out]; rfl, hs⟩
        case measure => simp [intOf]; omega
      | false =>
        rw [hh] at HU
        clear hh
        have k8 : (8 : Int) + (k : Int) < 16 := by omega
        by_cases hy : 0 < y
        · have hyi : (0 : Int) < (y : Int) := by omega
          have hyd : decide ((0 : Int) < (y : Int)) = true := by simp; omega
          go_wp2
          go_roundw
          case rel => exact ⟨k + 1, by omega, by go_num, by rw [HU.out]; simp [hy], hs⟩
          case measure => simp [intOf]; omega
        · obtain rfl : y = 0 := by omega
          go_wp2
          go_roundw
          case rel => exact ⟨k + 1, by omega, by go_num, by rw [HU.out]; simp, hs⟩
          case measure => simp [intOf]; omega
    · obtain rfl : k = 8 := by omega
      change Lv w [(B20, Obj.cells #[.int .u64 (m 0), .int .u64 (m 1), .int .u64 (m 2), .int .u64 (m 3), .int .u64 (m 4), .int .u64 (m 5), .int .u64 (m 6), .int .u64 (m 7)] 54 (0, 0)), (B18, Obj.cells #[.int .u64 (m 0), .int .u64 (m 1), .int .u64 (m 2), .int .u64 (m 3), .int .u64 (m 4), .int .u64 (m 5), .int .u64 (m 6), .int .u64 (m 7), .int .u64 (m 8), .int .u64 (m 9), .int .u64 (m 10), .int .u64 (m 11), .int .u64 (m 12), .int .u64 (m 13), .int .u64 (m 14), .int .u64 (m 15)] 61 (0, 0)), (B11, Obj.cells #[.int .u64 0, .int .u64 0, .int .u64 0, .int .u64 0] 24 (0, 0)), (B6, Obj.cells #[.int .u64 (b 0), .int .u64 (b 1), .int .u64 (b 2), .int .u64 (b 3)] 24 (0, 0)), (B2, Obj.cells #[.int .u64 (a 0), .int .u64 (a 1), .int .u64 (a 2), .int .u64 (a 3)] 24 (0, 0))] wr at hL
      rw [Xh5.out]
      obtain ⟨q23, q24, q25, q26, q27, q28, q29, q30⟩ := lv_cells8 hL lm0
      go_wp2_with fail
      clear q23 q24 q25 q26 q27 q28 q29 q30
      refine (wide_c hm Xh4.out _).mono ?_
      rintro e W31 ⟨rfl, hB⟩
      replace hL := lv_below hL hB
      clear hB
      go_wp2_with fail
      obtain ⟨V32, B33, hV34, hB35, hL⟩ := lv_grow hL (Obj.cells #[.int .u64 (c 0), .int .u64 (c 1), .int .u64 (c 2), .int .u64 (c 3)] 24)
      rw [hV34]
      try rw [hB35]
      clear hV34 hB35
      refine wp_region_held_drew (S := fun W' => Lv w [(B33, Obj.cells #[.int .u64 (c 0), .int .u64 (c 1), .int .u64 (c 2), .int .u64 (c 3)] 24 (0, 0)), (B20, Obj.cells #[.int .u64 (m 0), .int .u64 (m 1), .int .u64 (m 2), .int .u64 (m 3), .int .u64 (m 4), .int .u64 (m 5), .int .u64 (m 6), .int .u64 (m 7)] 54 (0, 0)), (B18, Obj.cells #[.int .u64 (m 0), .int .u64 (m 1), .int .u64 (m 2), .int .u64 (m 3), .int .u64 (m 4), .int .u64 (m 5), .int .u64 (m 6), .int .u64 (m 7), .int .u64 (m 8), .int .u64 (m 9), .int .u64 (m 10), .int .u64 (m 11), .int .u64 (m 12), .int .u64 (m 13), .int .u64 (m 14), .int .u64 (m 15)] 61 (0, 0)), (B11, Obj.cells #[.int .u64 0, .int .u64 0, .int .u64 0, .int .u64 0] 24 (0, 0)), (B6, Obj.cells #[.int .u64 (b 0), .int .u64 (b 1), .int .u64 (b 2), .int .u64 (b 3)] 24 (0, 0)), (B2, Obj.cells #[.int .u64 (a 0), .int .u64 (a 1), .int .u64 (a 2), .int .u64 (a 3)] 24 (0, 0))] W') (by kernel_rfl) (lv_drew (lv_sub (sk (sk (sk (sk (sk (sk sn)))))) hL)) (fun hHeld => ?_)
      replace hL := lv_drew hL
      obtain ⟨D36, hD37⟩ : ∃ W0, World.drew V32 = W0 := ⟨_, rfl⟩
      rw [hD37] at hHeld hL ⊢
      clear hD37
      refine tk 0 o15_10_0 (v := ?_) ?_ ?_
      rotate_left
      · intro w hSw
        obtain ⟨k0, k1, k2, k3⟩ := lv_cells4 hSw lm5
        delta o15_10_0
        go_simp
        try with_reducible rfl
      try simp only [Act.put, o15_10_0, List.setIfInBounds_toArray, List.set_cons_zero, List.set_cons_succ]
      refine tk 2 o15_10_2 (v := ?_) ?_ ?_
      rotate_left
      · intro w hSw
        obtain ⟨k0, k1, k2, k3⟩ := lv_cells4 hSw lm4
        delta o15_10_2
        go_simp
        try with_reducible rfl
      try simp only [Act.put, o15_10_2, List.setIfInBounds_toArray, List.set_cons_zero, List.set_cons_succ]
      refine rd1 1 o15_10_1 (fun K hK => ?_)
      delta o15_10_1
      go_simp
      refine (low_c ha Xh6.out _).mono ?_
      rintro e W38 ⟨rfl, hBl⟩
      replace hL := lv_below hL hBl
      clear hBl
      refine hK.out _ _ (lv_sub (sk (sk (sk (sk (sk (sk sn)))))) hL) (fun hHeld2 => ?_)
      clear hK K hHeld
      have hHeld := hHeld2
      clear hHeld2
      try simp only [Act.put, o15_10_1, List.setIfInBounds_toArray, List.set_cons_zero, List.set_cons_succ]
      refine rd1 3 o15_10_3 (fun K hK => ?_)
      delta o15_10_3
      go_simp
      refine (low_c hb Xh7.out _).mono ?_
      rintro e W39 ⟨rfl, hBl⟩
      replace hL := lv_below hL hBl
      clear hBl
      refine hK.out _ _ (lv_sub (sk (sk (sk (sk (sk (sk sn)))))) hL) (fun hHeld2 => ?_)
      clear hK K hHeld
      have hHeld := hHeld2
      clear hHeld2
      try simp only [Act.put, o15_10_3, List.setIfInBounds_toArray, List.set_cons_zero, List.set_cons_succ]
      refine tk 4 o15_10_4 (v := ?_) ?_ ?_
      rotate_left
      · intro w hSw
        delta o15_10_4
        go_simp
        try with_reducible rfl
      try simp only [Act.put, o15_10_4, List.setIfInBounds_toArray, List.set_cons_zero, List.set_cons_succ]
      refine wpAnyH_done (by kernel_rfl) ?_ _
      clear hHeld
      obtain ⟨q40, q41, q42, q43⟩ := lv_cells4 hL lm0
      go_wp2_with fail
      clear q40 q41 q42 q43
      refine (refneg_n hc Xh10.out Xh11.out _).mono ?_
      rintro e W44 ⟨rfl, hB⟩
      replace hL := lv_below hL hB
      clear hB
      go_wp2_with fail
      obtain ⟨V45, B46, hV47, hB48, hL⟩ := lv_grow hL (Obj.cells #[.int .u64 (n 0), .int .u64 (n 1), .int .u64 (n 2), .int .u64 (n 3)] 24)
      rw [hV47]
      try rw [hB48]
      clear hV47 hB48
      refine wp_region_held_drew (S := fun W' => Lv w [(B46, Obj.cells #[.int .u64 (n 0), .int .u64 (n 1), .int .u64 (n 2), .int .u64 (n 3)] 24 (0, 0)), (B33, Obj.cells #[.int .u64 (c 0), .int .u64 (c 1), .int .u64 (c 2), .int .u64 (c 3)] 24 (0, 0)), (B20, Obj.cells #[.int .u64 (m 0), .int .u64 (m 1), .int .u64 (m 2), .int .u64 (m 3), .int .u64 (m 4), .int .u64 (m 5), .int .u64 (m 6), .int .u64 (m 7)] 54 (0, 0)), (B18, Obj.cells #[.int .u64 (m 0), .int .u64 (m 1), .int .u64 (m 2), .int .u64 (m 3), .int .u64 (m 4), .int .u64 (m 5), .int .u64 (m 6), .int .u64 (m 7), .int .u64 (m 8), .int .u64 (m 9), .int .u64 (m 10), .int .u64 (m 11), .int .u64 (m 12), .int .u64 (m 13), .int .u64 (m 14), .int .u64 (m 15)] 61 (0, 0)), (B6, Obj.cells #[.int .u64 (b 0), .int .u64 (b 1), .int .u64 (b 2), .int .u64 (b 3)] 24 (0, 0)), (B2, Obj.cells #[.int .u64 (a 0), .int .u64 (a 1), .int .u64 (a 2), .int .u64 (a 3)] 24 (0, 0))] W') (by kernel_rfl) (lv_drew (lv_sub (sk (sk (sk (sk (sd (sk (sk sn))))))) hL)) (fun hHeld => ?_)
      replace hL := lv_drew hL
      obtain ⟨D49, hD50⟩ : ∃ W0, World.drew V45 = W0 := ⟨_, rfl⟩
      rw [hD50] at hHeld hL ⊢
      clear hD50
      refine tk 0 o15_13_0 (v := ?_) ?_ ?_
      rotate_left
      · intro w hSw
        obtain ⟨k0, k1, k2, k3⟩ := lv_cells4 hSw lm0
        delta o15_13_0
        go_simp
        try with_reducible rfl
      try simp only [Act.put, o15_13_0, List.setIfInBounds_toArray, List.set_cons_zero, List.set_cons_succ]
      refine tk 1 o15_13_1 (v := ?_) ?_ ?_
      rotate_left
      · intro w hSw
        delta o15_13_1
        go_simp
        try with_reducible rfl
      try simp only [Act.put, o15_13_1, List.setIfInBounds_toArray, List.set_cons_zero, List.set_cons_succ]
      refine tk 2 o15_13_2 (v := ?_) ?_ ?_
      rotate_left
      · intro w hSw
        delta o15_13_2
        go_simp
        try with_reducible rfl
      try simp only [Act.put, o15_13_2, List.setIfInBounds_toArray, List.set_cons_zero, List.set_cons_succ]
      refine tu 3 o15_13_3 ?_
      try simp only [Act.put, o15_13_3, List.setIfInBounds_toArray, List.set_cons_zero, List.set_cons_succ]
      refine tu 4 o15_13_4 ?_
      try simp only [Act.put, o15_13_4, List.setIfInBounds_toArray, List.set_cons_zero, List.set_cons_succ]
      refine tu 5 o15_13_5 ?_
      try simp only [Act.put, o15_13_5, List.setIfInBounds_toArray, List.set_cons_zero, List.set_cons_succ]
      refine tu 6 o15_13_6 ?_
      try simp only [Act.put, o15_13_6, List.setIfInBounds_toArray, List.set_cons_zero, List.set_cons_succ]
      refine tu 7 o15_13_7 ?_
      try simp only [Act.put, o15_13_7, List.setIfInBounds_toArray, List.set_cons_zero, List.set_cons_succ]
      refine rd1 8 o15_13_8 (fun K hK => ?_)
      delta o15_13_8
      go_simp
      refine hK.out _ _ hHeld (fun hHeld2 => ?_)
      clear hK K hHeld
      have hHeld := hHeld2
      clear hHeld2
      try simp only [Act.put, o15_13_8, List.setIfInBounds_toArray, List.set_cons_zero, List.set_cons_succ]
      refine tu 9 o15_13_9 ?_
      try simp only [Act.put, o15_13_9, List.setIfInBounds_toArray, List.set_cons_zero, List.set_cons_succ]
      refine tu 10 o15_13_10 ?_
      try simp only [Act.put, o15_13_10, List.setIfInBounds_toArray, List.set_cons_zero, List.set_cons_succ]
      refine tk 11 o15_13_11 (v := ?_) ?_ ?_
      rotate_left
      · intro w hSw
        delta o15_13_11
        go_simp
        try with_reducible rfl
      try simp only [Act.put, o15_13_11, List.setIfInBounds_toArray, List.set_cons_zero, List.set_cons_succ]
      refine rd1 12 o15_13_12 (fun K hK => ?_)
      obtain ⟨k0, k1, k2, k3⟩ := lv_cells4 hL lm4
      have z0 := lv_frozen hL lm4 0
      have z1 := lv_frozen hL lm4 1
      have z2 := lv_frozen hL lm4 2
      have z3 := lv_frozen hL lm4 3
      delta o15_13_12
      go_simp
      clear k0 z0 k1 z1 k2 z2 k3 z3
      obtain ⟨V51, hVx, hL2⟩ : ∃ V, (World.setCell (World.setCell (World.setCell (World.setCell D49 ⟨B11, 0, none⟩ (.int .u64 (n 0))) ⟨B11, 1, none⟩ (.int .u64 (n 1))) ⟨B11, 2, none⟩ (.int .u64 (n 2))) ⟨B11, 3, none⟩ (.int .u64 (n 3))) = V ∧ Lv w [(B46, Obj.cells #[.int .u64 (n 0), .int .u64 (n 1), .int .u64 (n 2), .int .u64 (n 3)] 24 (0, 0)), (B33, Obj.cells #[.int .u64 (c 0), .int .u64 (c 1), .int .u64 (c 2), .int .u64 (c 3)] 24 (0, 0)), (B20, Obj.cells #[.int .u64 (m 0), .int .u64 (m 1), .int .u64 (m 2), .int .u64 (m 3), .int .u64 (m 4), .int .u64 (m 5), .int .u64 (m 6), .int .u64 (m 7)] 54 (0, 0)), (B18, Obj.cells #[.int .u64 (m 0), .int .u64 (m 1), .int .u64 (m 2), .int .u64 (m 3), .int .u64 (m 4), .int .u64 (m 5), .int .u64 (m 6), .int .u64 (m 7), .int .u64 (m 8), .int .u64 (m 9), .int .u64 (m 10), .int .u64 (m 11), .int .u64 (m 12), .int .u64 (m 13), .int .u64 (m 14), .int .u64 (m 15)] 61 (0, 0)), (B11, Obj.cells #[.int .u64 (n 0), .int .u64 (n 1), .int .u64 (n 2), .int .u64 (n 3)] 24 (0, 0)), (B6, Obj.cells #[.int .u64 (b 0), .int .u64 (b 1), .int .u64 (b 2), .int .u64 (b 3)] 24 (0, 0)), (B2, Obj.cells #[.int .u64 (a 0), .int .u64 (a 1), .int .u64 (a 2), .int .u64 (a 3)] 24 (0, 0))] V := ⟨_, rfl, lv_store4 [(B46, Obj.cells #[.int .u64 (n 0), .int .u64 (n 1), .int .u64 (n 2), .int .u64 (n 3)] 24 (0, 0)), (B33, Obj.cells #[.int .u64 (c 0), .int .u64 (c 1), .int .u64 (c 2), .int .u64 (c 3)] 24 (0, 0)), (B20, Obj.cells #[.int .u64 (m 0), .int .u64 (m 1), .int .u64 (m 2), .int .u64 (m 3), .int .u64 (m 4), .int .u64 (m 5), .int .u64 (m 6), .int .u64 (m 7)] 54 (0, 0)), (B18, Obj.cells #[.int .u64 (m 0), .int .u64 (m 1), .int .u64 (m 2), .int .u64 (m 3), .int .u64 (m 4), .int .u64 (m 5), .int .u64 (m 6), .int .u64 (m 7), .int .u64 (m 8), .int .u64 (m 9), .int .u64 (m 10), .int .u64 (m 11), .int .u64 (m 12), .int .u64 (m 13), .int .u64 (m 14), .int .u64 (m 15)] 61 (0, 0))] hL _ _ _ _⟩
      rw [hVx]
      clear hVx hL
      have hL := hL2
      clear hL2
      refine hK.out _ _ (lv_sub (sk (sk (sk (sk (sd (sk (sk sn))))))) hL) (fun hHeld2 => ?_)
      clear hK K hHeld
      have hHeld := hHeld2
      clear hHeld2
      try simp only [Act.put, o15_13_12, List.setIfInBounds_toArray, List.set_cons_zero, List.set_cons_succ]
      refine tk 13 o15_13_13 (v := ?_) ?_ ?_
      rotate_left
      · intro w hSw
        delta o15_13_13
        go_simp
        try with_reducible rfl
      try simp only [Act.put, o15_13_13, List.setIfInBounds_toArray, List.set_cons_zero, List.set_cons_succ]
      refine wpAnyH_done (by kernel_rfl) ?_ _
      clear hHeld
      go_wp2_with fail
      obtain ⟨k52, k53, k54, k55⟩ := lv_cells4 hL lm4
      refine bodyPost_ret (v := .tuple #[.agg #[.int .u64 (n 0), .int .u64 (n 1), .int .u64 (n 2), .int .u64 (n 3)], .bool true]) (by simp [results, Try.results15, go_sem, k52, k53, k54, k55]) rfl ⟨rfl, hL.2.2.2⟩

set_option maxRecDepth 100000 in
set_option maxHeartbeats 4000000 in
theorem refmul_d0 (a b d e m c n : Nat → Nat) (qa qb qc qn o : Bool) (ha : Wds a) (hb : Wds b) (hd : Digs d) (he : Digs e) (hm : Digs m) (hc : Wds c) (hn : Wds n) (h1 : digR (sizeR a) = d) (h2 : digR (sizeR b) = e) (h3 : timesR d e = m) (h4 : widR m = c) (h5 : hiSt m 8 = false) (h6 : lowB a = qa) (h7 : lowB b = qb) (h8 : lowB c = qc) (h9 : lowB n = qn) (h10 : negR c = n) (h11 : negO c = o) (hg : (qa == qb) = false) (hz : eqB c Zr = false) (w : World) :
    Calls Try.prog 15 #[.agg #[.int .u64 (a 0), .int .u64 (a 1), .int .u64 (a 2), .int .u64 (a 3)], .agg #[.int .u64 (b 0), .int .u64 (b 1), .int .u64 (b 2), .int .u64 (b 3)]] w fun ee w' => ee = .returned (.tuple #[.agg #[.int .u64 (n 0), .int .u64 (n 1), .int .u64 (n 2), .int .u64 (n 3)], .bool (!qn)]) ∧ Below w.heap.size w w' := by
  have E : ∀ w, (Op.equalIn 10000 24 (.agg #[.int .u64 (c 0), .int .u64 (c 1), .int .u64 (c 2), .int .u64 (c 3)]) (.agg #[.int .u64 0, .int .u64 0, .int .u64 0, .int .u64 0])).run Try.prog w = .ok false w := fun w => eq_c hz w
  clear hz
  have Xh1 := Lib.hid h1
  have Xh2 := Lib.hid h2
  have Xh3 := Lib.hid h3
  have Xh4 := Lib.hid h4
  have Xh5 := Lib.hid h5
  have Xh6 := Lib.hid h6
  have Xh7 := Lib.hid h7
  have Xh8 := Lib.hid h8
  have Xh9 := Lib.hid h9
  have Xh10 := Lib.hid h10
  have Xh11 := Lib.hid h11
  clear h1 h2 h3 h4 h5 h6 h7 h8 h9 h10 h11
  have hL := lv_nil w
  go_enter Try.func15, Try.ntmps15
  go_wp2_with fail
  obtain ⟨V1, B2, hV3, hB4, hL⟩ := lv_grow hL (Obj.cells #[.int .u64 (a 0), .int .u64 (a 1), .int .u64 (a 2), .int .u64 (a 3)] 24)
  rw [hV3]
  try rw [hB4]
  obtain ⟨V5, B6, hV7, hB8, hL⟩ := lv_grow hL (Obj.cells #[.int .u64 (b 0), .int .u64 (b 1), .int .u64 (b 2), .int .u64 (b 3)] 24)
  rw [hV7]
  have hs9 : B2 + 1 = B6 := by rw [← hB8, ← hV3, World.size_alloc, hB4]
  try rw [hs9]
  clear hs9
  obtain ⟨V10, B11, hV12, hB13, hL⟩ := lv_grow hL (Obj.cells #[.int .u64 0, .int .u64 0, .int .u64 0, .int .u64 0] 24)
  rw [hV12]
  have hs14 : B6 + 1 = B11 := by rw [← hB13, ← hV7, World.size_alloc, hB8]
  try rw [hs14]
  clear hs14
  clear hV3 hB4 hV7 hB8 hV12 hB13
  refine Code.wp_mono ?_ (refmul_r1 w _ B11 B6 B2 a b d e m ha hb hd he Xh1 Xh2 Xh3 hL)
  rintro ee aa W17 ⟨rfl, B18, rfl, hL2⟩
  clear hL
  have hL := hL2
  clear hL2
  go_wp2_with fail
  obtain ⟨V19, B20, hV21, hB22, hL⟩ := lv_grow hL (Obj.cells #[.int .u64 0, .int .u64 0, .int .u64 0, .int .u64 0, .int .u64 0, .int .u64 0, .int .u64 0, .int .u64 0] 54)
  rw [hV21]
  try rw [hB22]
  clear hV21 hB22
  go_loopw [8, 9] (fun v8 v9 wr => ∃ k : Nat, k ≤ 8 ∧ v9 = .int .i64 k ∧ v8 = .bool (hiSt m k) ∧ Lv w [(B20, Obj.cells #[.int .u64 ((loSt m k) 0), .int .u64 ((loSt m k) 1), .int .u64 ((loSt m k) 2), .int .u64 ((loSt m k) 3), .int .u64 ((loSt m k) 4), .int .u64 ((loSt m k) 5), .int .u64 ((loSt m k) 6), .int .u64 ((loSt m k) 7)] 54 (0, 0)), (B18, Obj.cells #[.int .u64 (m 0), .int .u64 (m 1), .int .u64 (m 2), .int .u64 (m 3), .int .u64 (m 4), .int .u64 (m 5), .int .u64 (m 6), .int .u64 (m 7), .int .u64 (m 8), .int .u64 (m 9), .int .u64 (m 10), .int .u64 (m 11), .int .u64 (m 12), .int .u64 (m 13), .int .u64 (m 14), .int .u64 (m 15)] 61 (0, 0)), (B11, Obj.cells #[.int .u64 0, .int .u64 0, .int .u64 0, .int .u64 0] 24 (0, 0)), (B6, Obj.cells #[.int .u64 (b 0), .int .u64 (b 1), .int .u64 (b 2), .int .u64 (b 3)] 24 (0, 0)), (B2, Obj.cells #[.int .u64 (a 0), .int .u64 (a 1), .int .u64 (a 2), .int .u64 (a 3)] 24 (0, 0))] wr) (fun _ v9 _ => 8 - (intOf v9).toNat)
  case atStart => exact ⟨0, by omega, rfl, rfl, hL⟩
  case round =>
    clear hL
    obtain ⟨k, hk, rfl, rfl, hL⟩ := hrel
    by_cases hlt : k < 8
    · have hki : (k : Int) < 8 := by omega
      have c1 := (lv_at16 hL lm1).cell k (by omega)
      have c2 := (lv_at16 hL lm1).cell (8 + k) (by omega)
      have c3 := (lv_at8 hL lm0).cell k hlt
      have f3 := (lv_at8 hL lm0).frozen k
      have hs := lv_set8 [] hL k (m k) hlt
      rw [loSt_up] at hs
      have HU : Hid (hiSt m (k + 1) = (hiSt m k || decide (0 < m (8 + k)))) := Lib.hid rfl
      obtain ⟨x, hx⟩ : ∃ x, m k = x := ⟨_, rfl⟩
      obtain ⟨y, hy⟩ : ∃ y, m (8 + k) = y := ⟨_, rfl⟩
      obtain ⟨z, hz⟩ : ∃ z, loSt m k k = z := ⟨_, rfl⟩
      rw [hx] at c1 hs
      rw [hy] at c2 HU
      rw [hz] at c3
      clear hx hy hz
      cases hh : hiSt m k with
      | true =>
        rw [hh] at HU
        clear hh c2
        go_wp2
        go_roundw
        case rel => exact ⟨k + 1, by omega, by go_num, by rw [HU.out]; rfl, hs⟩
        case measure => simp [intOf]; omega
      | false =>
        rw [hh] at HU
        clear hh
        have k8 : (8 : Int) + (k : Int) < 16 := by omega
        by_cases hy : 0 < y
        · have hyi : (0 : Int) < (y : Int) := by omega
          have hyd : decide ((0 : Int) < (y : Int)) = true := by simp; omega
          go_wp2
          go_roundw
          case rel => exact ⟨k + 1, by omega, by go_num, by rw [HU.out]; simp [hy], hs⟩
          case measure => simp [intOf]; omega
        · obtain rfl : y = 0 := by omega
          go_wp2
          go_roundw
          case rel => exact ⟨k + 1, by omega, by go_num, by rw [HU.out]; simp, hs⟩
          case measure => simp [intOf]; omega
    · obtain rfl : k = 8 := by omega
      change Lv w [(B20, Obj.cells #[.int .u64 (m 0), .int .u64 (m 1), .int .u64 (m 2), .int .u64 (m 3), .int .u64 (m 4), .int .u64 (m 5), .int .u64 (m 6), .int .u64 (m 7)] 54 (0, 0)), (B18, Obj.cells #[.int .u64 (m 0), .int .u64 (m 1), .int .u64 (m 2), .int .u64 (m 3), .int .u64 (m 4), .int .u64 (m 5), .int .u64 (m 6), .int .u64 (m 7), .int .u64 (m 8), .int .u64 (m 9), .int .u64 (m 10), .int .u64 (m 11), .int .u64 (m 12), .int .u64 (m 13), .int .u64 (m 14), .int .u64 (m 15)] 61 (0, 0)), (B11, Obj.cells #[.int .u64 0, .int .u64 0, .int .u64 0, .int .u64 0] 24 (0, 0)), (B6, Obj.cells #[.int .u64 (b 0), .int .u64 (b 1), .int .u64 (b 2), .int .u64 (b 3)] 24 (0, 0)), (B2, Obj.cells #[.int .u64 (a 0), .int .u64 (a 1), .int .u64 (a 2), .int .u64 (a 3)] 24 (0, 0))] wr at hL
      rw [Xh5.out]
      obtain ⟨q23, q24, q25, q26, q27, q28, q29, q30⟩ := lv_cells8 hL lm0
      go_wp2_with fail
      clear q23 q24 q25 q26 q27 q28 q29 q30
      refine (wide_c hm Xh4.out _).mono ?_
      rintro e W31 ⟨rfl, hB⟩
      replace hL := lv_below hL hB
      clear hB
      go_wp2_with fail
      obtain ⟨V32, B33, hV34, hB35, hL⟩ := lv_grow hL (Obj.cells #[.int .u64 (c 0), .int .u64 (c 1), .int .u64 (c 2), .int .u64 (c 3)] 24)
      rw [hV34]
      try rw [hB35]
      clear hV34 hB35
      refine wp_region_held_drew (S := fun W' => Lv w [(B33, Obj.cells #[.int .u64 (c 0), .int .u64 (c 1), .int .u64 (c 2), .int .u64 (c 3)] 24 (0, 0)), (B20, Obj.cells #[.int .u64 (m 0), .int .u64 (m 1), .int .u64 (m 2), .int .u64 (m 3), .int .u64 (m 4), .int .u64 (m 5), .int .u64 (m 6), .int .u64 (m 7)] 54 (0, 0)), (B18, Obj.cells #[.int .u64 (m 0), .int .u64 (m 1), .int .u64 (m 2), .int .u64 (m 3), .int .u64 (m 4), .int .u64 (m 5), .int .u64 (m 6), .int .u64 (m 7), .int .u64 (m 8), .int .u64 (m 9), .int .u64 (m 10), .int .u64 (m 11), .int .u64 (m 12), .int .u64 (m 13), .int .u64 (m 14), .int .u64 (m 15)] 61 (0, 0)), (B11, Obj.cells #[.int .u64 0, .int .u64 0, .int .u64 0, .int .u64 0] 24 (0, 0)), (B6, Obj.cells #[.int .u64 (b 0), .int .u64 (b 1), .int .u64 (b 2), .int .u64 (b 3)] 24 (0, 0)), (B2, Obj.cells #[.int .u64 (a 0), .int .u64 (a 1), .int .u64 (a 2), .int .u64 (a 3)] 24 (0, 0))] W') (by kernel_rfl) (lv_drew (lv_sub (sk (sk (sk (sk (sk (sk sn)))))) hL)) (fun hHeld => ?_)
      replace hL := lv_drew hL
      obtain ⟨D36, hD37⟩ : ∃ W0, World.drew V32 = W0 := ⟨_, rfl⟩
      rw [hD37] at hHeld hL ⊢
      clear hD37
      refine tk 0 o15_10_0 (v := ?_) ?_ ?_
      rotate_left
      · intro w hSw
        obtain ⟨k0, k1, k2, k3⟩ := lv_cells4 hSw lm5
        delta o15_10_0
        go_simp
        try with_reducible rfl
      try simp only [Act.put, o15_10_0, List.setIfInBounds_toArray, List.set_cons_zero, List.set_cons_succ]
      refine tk 2 o15_10_2 (v := ?_) ?_ ?_
      rotate_left
      · intro w hSw
        obtain ⟨k0, k1, k2, k3⟩ := lv_cells4 hSw lm4
        delta o15_10_2
        go_simp
        try with_reducible rfl
      try simp only [Act.put, o15_10_2, List.setIfInBounds_toArray, List.set_cons_zero, List.set_cons_succ]
      refine rd1 1 o15_10_1 (fun K hK => ?_)
      delta o15_10_1
      go_simp
      refine (low_c ha Xh6.out _).mono ?_
      rintro e W38 ⟨rfl, hBl⟩
      replace hL := lv_below hL hBl
      clear hBl
      refine hK.out _ _ (lv_sub (sk (sk (sk (sk (sk (sk sn)))))) hL) (fun hHeld2 => ?_)
      clear hK K hHeld
      have hHeld := hHeld2
      clear hHeld2
      try simp only [Act.put, o15_10_1, List.setIfInBounds_toArray, List.set_cons_zero, List.set_cons_succ]
      refine rd1 3 o15_10_3 (fun K hK => ?_)
      delta o15_10_3
      go_simp
      refine (low_c hb Xh7.out _).mono ?_
      rintro e W39 ⟨rfl, hBl⟩
      replace hL := lv_below hL hBl
      clear hBl
      refine hK.out _ _ (lv_sub (sk (sk (sk (sk (sk (sk sn)))))) hL) (fun hHeld2 => ?_)
      clear hK K hHeld
      have hHeld := hHeld2
      clear hHeld2
      try simp only [Act.put, o15_10_3, List.setIfInBounds_toArray, List.set_cons_zero, List.set_cons_succ]
      refine tk 4 o15_10_4 (v := ?_) ?_ ?_
      rotate_left
      · intro w hSw
        delta o15_10_4
        go_simp
        try with_reducible rfl
      try simp only [Act.put, o15_10_4, List.setIfInBounds_toArray, List.set_cons_zero, List.set_cons_succ]
      refine wpAnyH_done (by kernel_rfl) ?_ _
      clear hHeld
      obtain ⟨q40, q41, q42, q43⟩ := lv_cells4 hL lm0
      go_wp2_with fail
      clear q40 q41 q42 q43
      refine (refneg_n hc Xh10.out Xh11.out _).mono ?_
      rintro e W44 ⟨rfl, hB⟩
      replace hL := lv_below hL hB
      clear hB
      go_wp2_with fail
      obtain ⟨V45, B46, hV47, hB48, hL⟩ := lv_grow hL (Obj.cells #[.int .u64 (n 0), .int .u64 (n 1), .int .u64 (n 2), .int .u64 (n 3)] 24)
      rw [hV47]
      try rw [hB48]
      clear hV47 hB48
      refine wp_region_held_drew (S := fun W' => Lv w [(B46, Obj.cells #[.int .u64 (n 0), .int .u64 (n 1), .int .u64 (n 2), .int .u64 (n 3)] 24 (0, 0)), (B33, Obj.cells #[.int .u64 (c 0), .int .u64 (c 1), .int .u64 (c 2), .int .u64 (c 3)] 24 (0, 0)), (B20, Obj.cells #[.int .u64 (m 0), .int .u64 (m 1), .int .u64 (m 2), .int .u64 (m 3), .int .u64 (m 4), .int .u64 (m 5), .int .u64 (m 6), .int .u64 (m 7)] 54 (0, 0)), (B18, Obj.cells #[.int .u64 (m 0), .int .u64 (m 1), .int .u64 (m 2), .int .u64 (m 3), .int .u64 (m 4), .int .u64 (m 5), .int .u64 (m 6), .int .u64 (m 7), .int .u64 (m 8), .int .u64 (m 9), .int .u64 (m 10), .int .u64 (m 11), .int .u64 (m 12), .int .u64 (m 13), .int .u64 (m 14), .int .u64 (m 15)] 61 (0, 0)), (B6, Obj.cells #[.int .u64 (b 0), .int .u64 (b 1), .int .u64 (b 2), .int .u64 (b 3)] 24 (0, 0)), (B2, Obj.cells #[.int .u64 (a 0), .int .u64 (a 1), .int .u64 (a 2), .int .u64 (a 3)] 24 (0, 0))] W') (by kernel_rfl) (lv_drew (lv_sub (sk (sk (sk (sk (sd (sk (sk sn))))))) hL)) (fun hHeld => ?_)
      replace hL := lv_drew hL
      obtain ⟨D49, hD50⟩ : ∃ W0, World.drew V45 = W0 := ⟨_, rfl⟩
      rw [hD50] at hHeld hL ⊢
      clear hD50
      refine tk 0 o15_13_0 (v := ?_) ?_ ?_
      rotate_left
      · intro w hSw
        obtain ⟨k0, k1, k2, k3⟩ := lv_cells4 hSw lm0
        delta o15_13_0
        go_simp
        try with_reducible rfl
      try simp only [Act.put, o15_13_0, List.setIfInBounds_toArray, List.set_cons_zero, List.set_cons_succ]
      refine tk 1 o15_13_1 (v := ?_) ?_ ?_
      rotate_left
      · intro w hSw
        delta o15_13_1
        go_simp
        try with_reducible rfl
      try simp only [Act.put, o15_13_1, List.setIfInBounds_toArray, List.set_cons_zero, List.set_cons_succ]
      refine tk 2 o15_13_2 (v := ?_) ?_ ?_
      rotate_left
      · intro w hSw
        delta o15_13_2
        go_simp
        try with_reducible rfl
      try simp only [Act.put, o15_13_2, List.setIfInBounds_toArray, List.set_cons_zero, List.set_cons_succ]
      refine tk 3 o15_13_3 (v := ?_) ?_ ?_
      rotate_left
      · intro w hSw
        obtain ⟨k0, k1, k2, k3⟩ := lv_cells4 hSw lm1
        delta o15_13_3
        go_simp
        try with_reducible rfl
      try simp only [Act.put, o15_13_3, List.setIfInBounds_toArray, List.set_cons_zero, List.set_cons_succ]
      refine tk 4 o15_13_4 (v := ?_) ?_ ?_
      rotate_left
      · intro w hSw
        delta o15_13_4
        go_simp
        try with_reducible rfl
      try simp only [Act.put, o15_13_4, List.setIfInBounds_toArray, List.set_cons_zero, List.set_cons_succ]
      refine tk 5 o15_13_5 (v := ?_) ?_ ?_
      rotate_left
      · intro w hSw
        delta o15_13_5
        go_simp
        try with_reducible rfl
      try simp only [Act.put, o15_13_5, List.setIfInBounds_toArray, List.set_cons_zero, List.set_cons_succ]
      refine tk 6 o15_13_6 (v := ?_) ?_ ?_
      rotate_left
      · intro w hSw
        delta o15_13_6
        go_simp
        try with_reducible rfl
      try simp only [Act.put, o15_13_6, List.setIfInBounds_toArray, List.set_cons_zero, List.set_cons_succ]
      refine tk 7 o15_13_7 (v := ?_) ?_ ?_
      rotate_left
      · intro w hSw
        obtain ⟨k0, k1, k2, k3⟩ := lv_cells4 hSw lm0
        delta o15_13_7
        go_simp
        try with_reducible rfl
      try simp only [Act.put, o15_13_7, List.setIfInBounds_toArray, List.set_cons_zero, List.set_cons_succ]
      refine rd1 8 o15_13_8 (fun K hK => ?_)
      delta o15_13_8
      go_simp
      refine (low_c hn Xh9.out _).mono ?_
      rintro e W51 ⟨rfl, hBl⟩
      replace hL := lv_below hL hBl
      clear hBl
      refine hK.out _ _ (lv_sub (sk (sk (sk (sk (sd (sk (sk sn))))))) hL) (fun hHeld2 => ?_)
      clear hK K hHeld
      have hHeld := hHeld2
      clear hHeld2
      try simp only [Act.put, o15_13_8, List.setIfInBounds_toArray, List.set_cons_zero, List.set_cons_succ]
      refine tk 9 o15_13_9 (v := ?_) ?_ ?_
      rotate_left
      · intro w hSw
        delta o15_13_9
        go_simp
        try with_reducible rfl
      try simp only [Act.put, o15_13_9, List.setIfInBounds_toArray, List.set_cons_zero, List.set_cons_succ]
      refine tk 10 o15_13_10 (v := ?_) ?_ ?_
      rotate_left
      · intro w hSw
        delta o15_13_10
        go_simp
        try with_reducible rfl
      try simp only [Act.put, o15_13_10, List.setIfInBounds_toArray, List.set_cons_zero, List.set_cons_succ]
      refine tk 11 o15_13_11 (v := ?_) ?_ ?_
      rotate_left
      · intro w hSw
        delta o15_13_11
        go_simp
        try with_reducible rfl
      try simp only [Act.put, o15_13_11, List.setIfInBounds_toArray, List.set_cons_zero, List.set_cons_succ]
      refine rd1 12 o15_13_12 (fun K hK => ?_)
      obtain ⟨k0, k1, k2, k3⟩ := lv_cells4 hL lm4
      have z0 := lv_frozen hL lm4 0
      have z1 := lv_frozen hL lm4 1
      have z2 := lv_frozen hL lm4 2
      have z3 := lv_frozen hL lm4 3
      delta o15_13_12
      go_simp
      clear k0 z0 k1 z1 k2 z2 k3 z3
      obtain ⟨V52, hVx, hL2⟩ : ∃ V, (World.setCell (World.setCell (World.setCell (World.setCell W51 ⟨B11, 0, none⟩ (.int .u64 (n 0))) ⟨B11, 1, none⟩ (.int .u64 (n 1))) ⟨B11, 2, none⟩ (.int .u64 (n 2))) ⟨B11, 3, none⟩ (.int .u64 (n 3))) = V ∧ Lv w [(B46, Obj.cells #[.int .u64 (n 0), .int .u64 (n 1), .int .u64 (n 2), .int .u64 (n 3)] 24 (0, 0)), (B33, Obj.cells #[.int .u64 (c 0), .int .u64 (c 1), .int .u64 (c 2), .int .u64 (c 3)] 24 (0, 0)), (B20, Obj.cells #[.int .u64 (m 0), .int .u64 (m 1), .int .u64 (m 2), .int .u64 (m 3), .int .u64 (m 4), .int .u64 (m 5), .int .u64 (m 6), .int .u64 (m 7)] 54 (0, 0)), (B18, Obj.cells #[.int .u64 (m 0), .int .u64 (m 1), .int .u64 (m 2), .int .u64 (m 3), .int .u64 (m 4), .int .u64 (m 5), .int .u64 (m 6), .int .u64 (m 7), .int .u64 (m 8), .int .u64 (m 9), .int .u64 (m 10), .int .u64 (m 11), .int .u64 (m 12), .int .u64 (m 13), .int .u64 (m 14), .int .u64 (m 15)] 61 (0, 0)), (B11, Obj.cells #[.int .u64 (n 0), .int .u64 (n 1), .int .u64 (n 2), .int .u64 (n 3)] 24 (0, 0)), (B6, Obj.cells #[.int .u64 (b 0), .int .u64 (b 1), .int .u64 (b 2), .int .u64 (b 3)] 24 (0, 0)), (B2, Obj.cells #[.int .u64 (a 0), .int .u64 (a 1), .int .u64 (a 2), .int .u64 (a 3)] 24 (0, 0))] V := ⟨_, rfl, lv_store4 [(B46, Obj.cells #[.int .u64 (n 0), .int .u64 (n 1), .int .u64 (n 2), .int .u64 (n 3)] 24 (0, 0)), (B33, Obj.cells #[.int .u64 (c 0), .int .u64 (c 1), .int .u64 (c 2), .int .u64 (c 3)] 24 (0, 0)), (B20, Obj.cells #[.int .u64 (m 0), .int .u64 (m 1), .int .u64 (m 2), .int .u64 (m 3), .int .u64 (m 4), .int .u64 (m 5), .int .u64 (m 6), .int .u64 (m 7)] 54 (0, 0)), (B18, Obj.cells #[.int .u64 (m 0), .int .u64 (m 1), .int .u64 (m 2), .int .u64 (m 3), .int .u64 (m 4), .int .u64 (m 5), .int .u64 (m 6), .int .u64 (m 7), .int .u64 (m 8), .int .u64 (m 9), .int .u64 (m 10), .int .u64 (m 11), .int .u64 (m 12), .int .u64 (m 13), .int .u64 (m 14), .int .u64 (m 15)] 61 (0, 0))] hL _ _ _ _⟩
      rw [hVx]
      clear hVx hL
      have hL := hL2
      clear hL2
      refine hK.out _ _ (lv_sub (sk (sk (sk (sk (sd (sk (sk sn))))))) hL) (fun hHeld2 => ?_)
      clear hK K hHeld
      have hHeld := hHeld2
      clear hHeld2
      try simp only [Act.put, o15_13_12, List.setIfInBounds_toArray, List.set_cons_zero, List.set_cons_succ]
      refine tk 13 o15_13_13 (v := ?_) ?_ ?_
      rotate_left
      · intro w hSw
        delta o15_13_13
        go_simp
        try with_reducible rfl
      try simp only [Act.put, o15_13_13, List.setIfInBounds_toArray, List.set_cons_zero, List.set_cons_succ]
      refine wpAnyH_done (by kernel_rfl) ?_ _
      clear hHeld
      go_wp2_with fail
      obtain ⟨k53, k54, k55, k56⟩ := lv_cells4 hL lm4
      refine bodyPost_ret (v := .tuple #[.agg #[.int .u64 (n 0), .int .u64 (n 1), .int .u64 (n 2), .int .u64 (n 3)], .bool (!qn)]) (by simp [results, Try.results15, go_sem, k53, k54, k55, k56]) rfl ⟨rfl, hL.2.2.2⟩

set_option maxRecDepth 100000 in
set_option maxHeartbeats 4000000 in
theorem refmul_dz (a b d e m c n : Nat → Nat) (qa qb qc qn o : Bool) (ha : Wds a) (hb : Wds b) (hd : Digs d) (he : Digs e) (hm : Digs m) (hc : Wds c) (hn : Wds n) (h1 : digR (sizeR a) = d) (h2 : digR (sizeR b) = e) (h3 : timesR d e = m) (h4 : widR m = c) (h5 : hiSt m 8 = false) (h6 : lowB a = qa) (h7 : lowB b = qb) (h8 : lowB c = qc) (h9 : lowB n = qn) (h10 : negR c = n) (h11 : negO c = o) (hg : (qa == qb) = false) (hz : eqB c Zr = true) (w : World) :
    Calls Try.prog 15 #[.agg #[.int .u64 (a 0), .int .u64 (a 1), .int .u64 (a 2), .int .u64 (a 3)], .agg #[.int .u64 (b 0), .int .u64 (b 1), .int .u64 (b 2), .int .u64 (b 3)]] w fun ee w' => ee = .returned (.tuple #[.agg #[.int .u64 (n 0), .int .u64 (n 1), .int .u64 (n 2), .int .u64 (n 3)], .bool false]) ∧ Below w.heap.size w w' := by
  have E : ∀ w, (Op.equalIn 10000 24 (.agg #[.int .u64 (c 0), .int .u64 (c 1), .int .u64 (c 2), .int .u64 (c 3)]) (.agg #[.int .u64 0, .int .u64 0, .int .u64 0, .int .u64 0])).run Try.prog w = .ok true w := fun w => eq_c hz w
  clear hz
  have Xh1 := Lib.hid h1
  have Xh2 := Lib.hid h2
  have Xh3 := Lib.hid h3
  have Xh4 := Lib.hid h4
  have Xh5 := Lib.hid h5
  have Xh6 := Lib.hid h6
  have Xh7 := Lib.hid h7
  have Xh8 := Lib.hid h8
  have Xh9 := Lib.hid h9
  have Xh10 := Lib.hid h10
  have Xh11 := Lib.hid h11
  clear h1 h2 h3 h4 h5 h6 h7 h8 h9 h10 h11
  have hL := lv_nil w
  go_enter Try.func15, Try.ntmps15
  go_wp2_with fail
  obtain ⟨V1, B2, hV3, hB4, hL⟩ := lv_grow hL (Obj.cells #[.int .u64 (a 0), .int .u64 (a 1), .int .u64 (a 2), .int .u64 (a 3)] 24)
  rw [hV3]
  try rw [hB4]
  obtain ⟨V5, B6, hV7, hB8, hL⟩ := lv_grow hL (Obj.cells #[.int .u64 (b 0), .int .u64 (b 1), .int .u64 (b 2), .int .u64 (b 3)] 24)
  rw [hV7]
  have hs9 : B2 + 1 = B6 := by rw [← hB8, ← hV3, World.size_alloc, hB4]
  try rw [hs9]
  clear hs9
  obtain ⟨V10, B11, hV12, hB13, hL⟩ := lv_grow hL (Obj.cells #[.int .u64 0, .int .u64 0, .int .u64 0, .int .u64 0] 24)
  rw [hV12]
  have hs14 : B6 + 1 = B11 := by rw [← hB13, ← hV7, World.size_alloc, hB8]
  try rw [hs14]
  clear hs14
  clear hV3 hB4 hV7 hB8 hV12 hB13
  refine Code.wp_mono ?_ (refmul_r1 w _ B11 B6 B2 a b d e m ha hb hd he Xh1 Xh2 Xh3 hL)
  rintro ee aa W17 ⟨rfl, B18, rfl, hL2⟩
  clear hL
  have hL := hL2
  clear hL2
  go_wp2_with fail
  obtain ⟨V19, B20, hV21, hB22, hL⟩ := lv_grow hL (Obj.cells #[.int .u64 0, .int .u64 0, .int .u64 0, .int .u64 0, .int .u64 0, .int .u64 0, .int .u64 0, .int .u64 0] 54)
  rw [hV21]
  try rw [hB22]
  clear hV21 hB22
  go_loopw [8, 9] (fun v8 v9 wr => ∃ k : Nat, k ≤ 8 ∧ v9 = .int .i64 k ∧ v8 = .bool (hiSt m k) ∧ Lv w [(B20, Obj.cells #[.int .u64 ((loSt m k) 0), .int .u64 ((loSt m k) 1), .int .u64 ((loSt m k) 2), .int .u64 ((loSt m k) 3), .int .u64 ((loSt m k) 4), .int .u64 ((loSt m k) 5), .int .u64 ((loSt m k) 6), .int .u64 ((loSt m k) 7)] 54 (0, 0)), (B18, Obj.cells #[.int .u64 (m 0), .int .u64 (m 1), .int .u64 (m 2), .int .u64 (m 3), .int .u64 (m 4), .int .u64 (m 5), .int .u64 (m 6), .int .u64 (m 7), .int .u64 (m 8), .int .u64 (m 9), .int .u64 (m 10), .int .u64 (m 11), .int .u64 (m 12), .int .u64 (m 13), .int .u64 (m 14), .int .u64 (m 15)] 61 (0, 0)), (B11, Obj.cells #[.int .u64 0, .int .u64 0, .int .u64 0, .int .u64 0] 24 (0, 0)), (B6, Obj.cells #[.int .u64 (b 0), .int .u64 (b 1), .int .u64 (b 2), .int .u64 (b 3)] 24 (0, 0)), (B2, Obj.cells #[.int .u64 (a 0), .int .u64 (a 1), .int .u64 (a 2), .int .u64 (a 3)] 24 (0, 0))] wr) (fun _ v9 _ => 8 - (intOf v9).toNat)
  case atStart => exact ⟨0, by omega, rfl, rfl, hL⟩
  case round =>
    clear hL
    obtain ⟨k, hk, rfl, rfl, hL⟩ := hrel
    by_cases hlt : k < 8
    · have hki : (k : Int) < 8 := by omega
      have c1 := (lv_at16 hL lm1).cell k (by omega)
      have c2 := (lv_at16 hL lm1).cell (8 + k) (by omega)
      have c3 := (lv_at8 hL lm0).cell k hlt
      have f3 := (lv_at8 hL lm0).frozen k
      have hs := lv_set8 [] hL k (m k) hlt
      rw [loSt_up] at hs
      have HU : Hid (hiSt m (k + 1) = (hiSt m k || decide (0 < m (8 + k)))) := Lib.hid rfl
      obtain ⟨x, hx⟩ : ∃ x, m k = x := ⟨_, rfl⟩
      obtain ⟨y, hy⟩ : ∃ y, m (8 + k) = y := ⟨_, rfl⟩
      obtain ⟨z, hz⟩ : ∃ z, loSt m k k = z := ⟨_, rfl⟩
      rw [hx] at c1 hs
      rw [hy] at c2 HU
      rw [hz] at c3
      clear hx hy hz
      cases hh : hiSt m k with
      | true =>
        rw [hh] at HU
        clear hh c2
        go_wp2
        go_roundw
        case rel => exact ⟨k + 1, by omega, by go_num, by rw [HU.out]; rfl, hs⟩
        case measure => simp [intOf]; omega
      | false =>
        rw [hh] at HU
        clear hh
        have k8 : (8 : Int) + (k : Int) < 16 := by omega
        by_cases hy : 0 < y
        · have hyi : (0 : Int) < (y : Int) := by omega
          have hyd : decide ((0 : Int) < (y : Int)) = true := by simp; omega
          go_wp2
          go_roundw
          case rel => exact ⟨k + 1, by omega, by go_num, by rw [HU.out]; simp [hy], hs⟩
          case measure => simp [intOf]; omega
        · obtain rfl : y = 0 := by omega
          go_wp2
          go_roundw
          case rel => exact ⟨k + 1, by omega, by go_num, by rw [HU.out]; simp, hs⟩
          case measure => simp [intOf]; omega
    · obtain rfl : k = 8 := by omega
      change Lv w [(B20, Obj.cells #[.int .u64 (m 0), .int .u64 (m 1), .int .u64 (m 2), .int .u64 (m 3), .int .u64 (m 4), .int .u64 (m 5), .int .u64 (m 6), .int .u64 (m 7)] 54 (0, 0)), (B18, Obj.cells #[.int .u64 (m 0), .int .u64 (m 1), .int .u64 (m 2), .int .u64 (m 3), .int .u64 (m 4), .int .u64 (m 5), .int .u64 (m 6), .int .u64 (m 7), .int .u64 (m 8), .int .u64 (m 9), .int .u64 (m 10), .int .u64 (m 11), .int .u64 (m 12), .int .u64 (m 13), .int .u64 (m 14), .int .u64 (m 15)] 61 (0, 0)), (B11, Obj.cells #[.int .u64 0, .int .u64 0, .int .u64 0, .int .u64 0] 24 (0, 0)), (B6, Obj.cells #[.int .u64 (b 0), .int .u64 (b 1), .int .u64 (b 2), .int .u64 (b 3)] 24 (0, 0)), (B2, Obj.cells #[.int .u64 (a 0), .int .u64 (a 1), .int .u64 (a 2), .int .u64 (a 3)] 24 (0, 0))] wr at hL
      rw [Xh5.out]
      obtain ⟨q23, q24, q25, q26, q27, q28, q29, q30⟩ := lv_cells8 hL lm0
      go_wp2_with fail
      clear q23 q24 q25 q26 q27 q28 q29 q30
      refine (wide_c hm Xh4.out _).mono ?_
      rintro e W31 ⟨rfl, hB⟩
      replace hL := lv_below hL hB
      clear hB
      go_wp2_with fail
      obtain ⟨V32, B33, hV34, hB35, hL⟩ := lv_grow hL (Obj.cells #[.int .u64 (c 0), .int .u64 (c 1), .int .u64 (c 2), .int .u64 (c 3)] 24)
      rw [hV34]
      try rw [hB35]
      clear hV34 hB35
      refine wp_region_held_drew (S := fun W' => Lv w [(B33, Obj.cells #[.int .u64 (c 0), .int .u64 (c 1), .int .u64 (c 2), .int .u64 (c 3)] 24 (0, 0)), (B20, Obj.cells #[.int .u64 (m 0), .int .u64 (m 1), .int .u64 (m 2), .int .u64 (m 3), .int .u64 (m 4), .int .u64 (m 5), .int .u64 (m 6), .int .u64 (m 7)] 54 (0, 0)), (B18, Obj.cells #[.int .u64 (m 0), .int .u64 (m 1), .int .u64 (m 2), .int .u64 (m 3), .int .u64 (m 4), .int .u64 (m 5), .int .u64 (m 6), .int .u64 (m 7), .int .u64 (m 8), .int .u64 (m 9), .int .u64 (m 10), .int .u64 (m 11), .int .u64 (m 12), .int .u64 (m 13), .int .u64 (m 14), .int .u64 (m 15)] 61 (0, 0)), (B11, Obj.cells #[.int .u64 0, .int .u64 0, .int .u64 0, .int .u64 0] 24 (0, 0)), (B6, Obj.cells #[.int .u64 (b 0), .int .u64 (b 1), .int .u64 (b 2), .int .u64 (b 3)] 24 (0, 0)), (B2, Obj.cells #[.int .u64 (a 0), .int .u64 (a 1), .int .u64 (a 2), .int .u64 (a 3)] 24 (0, 0))] W') (by kernel_rfl) (lv_drew (lv_sub (sk (sk (sk (sk (sk (sk sn)))))) hL)) (fun hHeld => ?_)
      replace hL := lv_drew hL
      obtain ⟨D36, hD37⟩ : ∃ W0, World.drew V32 = W0 := ⟨_, rfl⟩
      rw [hD37] at hHeld hL ⊢
      clear hD37
      refine tk 0 o15_10_0 (v := ?_) ?_ ?_
      rotate_left
      · intro w hSw
        obtain ⟨k0, k1, k2, k3⟩ := lv_cells4 hSw lm5
        delta o15_10_0
        go_simp
        try with_reducible rfl
      try simp only [Act.put, o15_10_0, List.setIfInBounds_toArray, List.set_cons_zero, List.set_cons_succ]
      refine tk 2 o15_10_2 (v := ?_) ?_ ?_
      rotate_left
      · intro w hSw
        obtain ⟨k0, k1, k2, k3⟩ := lv_cells4 hSw lm4
        delta o15_10_2
        go_simp
        try with_reducible rfl
      try simp only [Act.put, o15_10_2, List.setIfInBounds_toArray, List.set_cons_zero, List.set_cons_succ]
      refine rd1 1 o15_10_1 (fun K hK => ?_)
      delta o15_10_1
      go_simp
      refine (low_c ha Xh6.out _).mono ?_
      rintro e W38 ⟨rfl, hBl⟩
      replace hL := lv_below hL hBl
      clear hBl
      refine hK.out _ _ (lv_sub (sk (sk (sk (sk (sk (sk sn)))))) hL) (fun hHeld2 => ?_)
      clear hK K hHeld
      have hHeld := hHeld2
      clear hHeld2
      try simp only [Act.put, o15_10_1, List.setIfInBounds_toArray, List.set_cons_zero, List.set_cons_succ]
      refine rd1 3 o15_10_3 (fun K hK => ?_)
      delta o15_10_3
      go_simp
      refine (low_c hb Xh7.out _).mono ?_
      rintro e W39 ⟨rfl, hBl⟩
      replace hL := lv_below hL hBl
      clear hBl
      refine hK.out _ _ (lv_sub (sk (sk (sk (sk (sk (sk sn)))))) hL) (fun hHeld2 => ?_)
      clear hK K hHeld
      have hHeld := hHeld2
      clear hHeld2
      try simp only [Act.put, o15_10_3, List.setIfInBounds_toArray, List.set_cons_zero, List.set_cons_succ]
      refine tk 4 o15_10_4 (v := ?_) ?_ ?_
      rotate_left
      · intro w hSw
        delta o15_10_4
        go_simp
        try with_reducible rfl
      try simp only [Act.put, o15_10_4, List.setIfInBounds_toArray, List.set_cons_zero, List.set_cons_succ]
      refine wpAnyH_done (by kernel_rfl) ?_ _
      clear hHeld
      obtain ⟨q40, q41, q42, q43⟩ := lv_cells4 hL lm0
      go_wp2_with fail
      clear q40 q41 q42 q43
      refine (refneg_n hc Xh10.out Xh11.out _).mono ?_
      rintro e W44 ⟨rfl, hB⟩
      replace hL := lv_below hL hB
      clear hB
      go_wp2_with fail
      obtain ⟨V45, B46, hV47, hB48, hL⟩ := lv_grow hL (Obj.cells #[.int .u64 (n 0), .int .u64 (n 1), .int .u64 (n 2), .int .u64 (n 3)] 24)
      rw [hV47]
      try rw [hB48]
      clear hV47 hB48
      refine wp_region_held_drew (S := fun W' => Lv w [(B46, Obj.cells #[.int .u64 (n 0), .int .u64 (n 1), .int .u64 (n 2), .int .u64 (n 3)] 24 (0, 0)), (B33, Obj.cells #[.int .u64 (c 0), .int .u64 (c 1), .int .u64 (c 2), .int .u64 (c 3)] 24 (0, 0)), (B20, Obj.cells #[.int .u64 (m 0), .int .u64 (m 1), .int .u64 (m 2), .int .u64 (m 3), .int .u64 (m 4), .int .u64 (m 5), .int .u64 (m 6), .int .u64 (m 7)] 54 (0, 0)), (B18, Obj.cells #[.int .u64 (m 0), .int .u64 (m 1), .int .u64 (m 2), .int .u64 (m 3), .int .u64 (m 4), .int .u64 (m 5), .int .u64 (m 6), .int .u64 (m 7), .int .u64 (m 8), .int .u64 (m 9), .int .u64 (m 10), .int .u64 (m 11), .int .u64 (m 12), .int .u64 (m 13), .int .u64 (m 14), .int .u64 (m 15)] 61 (0, 0)), (B6, Obj.cells #[.int .u64 (b 0), .int .u64 (b 1), .int .u64 (b 2), .int .u64 (b 3)] 24 (0, 0)), (B2, Obj.cells #[.int .u64 (a 0), .int .u64 (a 1), .int .u64 (a 2), .int .u64 (a 3)] 24 (0, 0))] W') (by kernel_rfl) (lv_drew (lv_sub (sk (sk (sk (sk (sd (sk (sk sn))))))) hL)) (fun hHeld => ?_)
      replace hL := lv_drew hL
      obtain ⟨D49, hD50⟩ : ∃ W0, World.drew V45 = W0 := ⟨_, rfl⟩
      rw [hD50] at hHeld hL ⊢
      clear hD50
      refine tk 0 o15_13_0 (v := ?_) ?_ ?_
      rotate_left
      · intro w hSw
        obtain ⟨k0, k1, k2, k3⟩ := lv_cells4 hSw lm0
        delta o15_13_0
        go_simp
        try with_reducible rfl
      try simp only [Act.put, o15_13_0, List.setIfInBounds_toArray, List.set_cons_zero, List.set_cons_succ]
      refine tk 1 o15_13_1 (v := ?_) ?_ ?_
      rotate_left
      · intro w hSw
        delta o15_13_1
        go_simp
        try with_reducible rfl
      try simp only [Act.put, o15_13_1, List.setIfInBounds_toArray, List.set_cons_zero, List.set_cons_succ]
      refine tk 2 o15_13_2 (v := ?_) ?_ ?_
      rotate_left
      · intro w hSw
        delta o15_13_2
        go_simp
        try with_reducible rfl
      try simp only [Act.put, o15_13_2, List.setIfInBounds_toArray, List.set_cons_zero, List.set_cons_succ]
      refine tk 3 o15_13_3 (v := ?_) ?_ ?_
      rotate_left
      · intro w hSw
        obtain ⟨k0, k1, k2, k3⟩ := lv_cells4 hSw lm1
        delta o15_13_3
        go_simp
        try with_reducible rfl
      try simp only [Act.put, o15_13_3, List.setIfInBounds_toArray, List.set_cons_zero, List.set_cons_succ]
      refine tk 4 o15_13_4 (v := ?_) ?_ ?_
      rotate_left
      · intro w hSw
        delta o15_13_4
        go_simp
        try with_reducible rfl
      try simp only [Act.put, o15_13_4, List.setIfInBounds_toArray, List.set_cons_zero, List.set_cons_succ]
      refine tk 5 o15_13_5 (v := ?_) ?_ ?_
      rotate_left
      · intro w hSw
        delta o15_13_5
        go_simp
        try with_reducible rfl
      try simp only [Act.put, o15_13_5, List.setIfInBounds_toArray, List.set_cons_zero, List.set_cons_succ]
      refine tk 6 o15_13_6 (v := ?_) ?_ ?_
      rotate_left
      · intro w hSw
        delta o15_13_6
        go_simp
        try with_reducible rfl
      try simp only [Act.put, o15_13_6, List.setIfInBounds_toArray, List.set_cons_zero, List.set_cons_succ]
      refine tu 7 o15_13_7 ?_
      try simp only [Act.put, o15_13_7, List.setIfInBounds_toArray, List.set_cons_zero, List.set_cons_succ]
      refine rd1 8 o15_13_8 (fun K hK => ?_)
      delta o15_13_8
      go_simp
      refine hK.out _ _ hHeld (fun hHeld2 => ?_)
      clear hK K hHeld
      have hHeld := hHeld2
      clear hHeld2
      try simp only [Act.put, o15_13_8, List.setIfInBounds_toArray, List.set_cons_zero, List.set_cons_succ]
      refine tu 9 o15_13_9 ?_
      try simp only [Act.put, o15_13_9, List.setIfInBounds_toArray, List.set_cons_zero, List.set_cons_succ]
      refine tk 10 o15_13_10 (v := ?_) ?_ ?_
      rotate_left
      · intro w hSw
        delta o15_13_10
        go_simp
        try with_reducible rfl
      try simp only [Act.put, o15_13_10, List.setIfInBounds_toArray, List.set_cons_zero, List.set_cons_succ]
      refine tk 11 o15_13_11 (v := ?_) ?_ ?_
      rotate_left
      · intro w hSw
        delta o15_13_11
        go_simp
        try with_reducible rfl
      try simp only [Act.put, o15_13_11, List.setIfInBounds_toArray, List.set_cons_zero, List.set_cons_succ]
      refine rd1 12 o15_13_12 (fun K hK => ?_)
      obtain ⟨k0, k1, k2, k3⟩ := lv_cells4 hL lm4
      have z0 := lv_frozen hL lm4 0
      have z1 := lv_frozen hL lm4 1
      have z2 := lv_frozen hL lm4 2
      have z3 := lv_frozen hL lm4 3
      delta o15_13_12
      go_simp
      clear k0 z0 k1 z1 k2 z2 k3 z3
      obtain ⟨V51, hVx, hL2⟩ : ∃ V, (World.setCell (World.setCell (World.setCell (World.setCell D49 ⟨B11, 0, none⟩ (.int .u64 (n 0))) ⟨B11, 1, none⟩ (.int .u64 (n 1))) ⟨B11, 2, none⟩ (.int .u64 (n 2))) ⟨B11, 3, none⟩ (.int .u64 (n 3))) = V ∧ Lv w [(B46, Obj.cells #[.int .u64 (n 0), .int .u64 (n 1), .int .u64 (n 2), .int .u64 (n 3)] 24 (0, 0)), (B33, Obj.cells #[.int .u64 (c 0), .int .u64 (c 1), .int .u64 (c 2), .int .u64 (c 3)] 24 (0, 0)), (B20, Obj.cells #[.int .u64 (m 0), .int .u64 (m 1), .int .u64 (m 2), .int .u64 (m 3), .int .u64 (m 4), .int .u64 (m 5), .int .u64 (m 6), .int .u64 (m 7)] 54 (0, 0)), (B18, Obj.cells #[.int .u64 (m 0), .int .u64 (m 1), .int .u64 (m 2), .int .u64 (m 3), .int .u64 (m 4), .int .u64 (m 5), .int .u64 (m 6), .int .u64 (m 7), .int .u64 (m 8), .int .u64 (m 9), .int .u64 (m 10), .int .u64 (m 11), .int .u64 (m 12), .int .u64 (m 13), .int .u64 (m 14), .int .u64 (m 15)] 61 (0, 0)), (B11, Obj.cells #[.int .u64 (n 0), .int .u64 (n 1), .int .u64 (n 2), .int .u64 (n 3)] 24 (0, 0)), (B6, Obj.cells #[.int .u64 (b 0), .int .u64 (b 1), .int .u64 (b 2), .int .u64 (b 3)] 24 (0, 0)), (B2, Obj.cells #[.int .u64 (a 0), .int .u64 (a 1), .int .u64 (a 2), .int .u64 (a 3)] 24 (0, 0))] V := ⟨_, rfl, lv_store4 [(B46, Obj.cells #[.int .u64 (n 0), .int .u64 (n 1), .int .u64 (n 2), .int .u64 (n 3)] 24 (0, 0)), (B33, Obj.cells #[.int .u64 (c 0), .int .u64 (c 1), .int .u64 (c 2), .int .u64 (c 3)] 24 (0, 0)), (B20, Obj.cells #[.int .u64 (m 0), .int .u64 (m 1), .int .u64 (m 2), .int .u64 (m 3), .int .u64 (m 4), .int .u64 (m 5), .int .u64 (m 6), .int .u64 (m 7)] 54 (0, 0)), (B18, Obj.cells #[.int .u64 (m 0), .int .u64 (m 1), .int .u64 (m 2), .int .u64 (m 3), .int .u64 (m 4), .int .u64 (m 5), .int .u64 (m 6), .int .u64 (m 7), .int .u64 (m 8), .int .u64 (m 9), .int .u64 (m 10), .int .u64 (m 11), .int .u64 (m 12), .int .u64 (m 13), .int .u64 (m 14), .int .u64 (m 15)] 61 (0, 0))] hL _ _ _ _⟩
      rw [hVx]
      clear hVx hL
      have hL := hL2
      clear hL2
      refine hK.out _ _ (lv_sub (sk (sk (sk (sk (sd (sk (sk sn))))))) hL) (fun hHeld2 => ?_)
      clear hK K hHeld
      have hHeld := hHeld2
      clear hHeld2
      try simp only [Act.put, o15_13_12, List.setIfInBounds_toArray, List.set_cons_zero, List.set_cons_succ]
      refine tk 13 o15_13_13 (v := ?_) ?_ ?_
      rotate_left
      · intro w hSw
        delta o15_13_13
        go_simp
        try with_reducible rfl
      try simp only [Act.put, o15_13_13, List.setIfInBounds_toArray, List.set_cons_zero, List.set_cons_succ]
      refine wpAnyH_done (by kernel_rfl) ?_ _
      clear hHeld
      go_wp2_with fail
      obtain ⟨k52, k53, k54, k55⟩ := lv_cells4 hL lm4
      refine bodyPost_ret (v := .tuple #[.agg #[.int .u64 (n 0), .int .u64 (n 1), .int .u64 (n 2), .int .u64 (n 3)], .bool false]) (by simp [results, Try.results15, go_sem, k52, k53, k54, k55]) rfl ⟨rfl, hL.2.2.2⟩

end Go.Proofs.Ytecgclkjglkkbaa
