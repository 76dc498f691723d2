/- WideOrder answers true at every input: the first ways. -/
import Derived.Test.YtmlbppljencdnaaWk
import Derived.Test.YtmlbppljencdnaaP3
namespace Go.Proofs.Ytmlbppljencdnaa
open Go Go.RowKit Go.Shelf

set_option maxRecDepth 100000 in
set_option maxHeartbeats 4000000 in
theorem or_00 (a b c x y z : Nat → Nat) (ze o2 : Bool) (n n2 n3 sg : Int) (ha : Wds a) (hb : Wds b) (hc : Wds c) (vx : Wds x) (vy : Wds y) (vz : Wds z)
    (hn : cmpR a b = n) (hm : cmpR b a = -n) (hn2 : cmpR b c = n2) (hn3 : cmpR a c = n3) (hx : negR a = x) (hy : negR b = y) (hz : ofR 0 = z) (hsg : signI a = sg) (hcz : cmpR a z = sg) (he : eqB a b = ze)
    (b1 : -1 ≤ n) (b2 : n ≤ 1) (hze : (n == 0) = ze) (hl1 : decide (n < -1) = false) (hl2 : decide (1 < n) = false)
    (hg1 : decide (n ≤ 0) = false) (ho1 : negO a = true) (ho2 : negO b = o2) (w : World) :
    Calls Try.prog 6 #[.agg #[.int .u64 (a 0), .int .u64 (a 1), .int .u64 (a 2), .int .u64 (a 3)], .agg #[.int .u64 (b 0), .int .u64 (b 1), .int .u64 (b 2), .int .u64 (b 3)], .agg #[.int .u64 (c 0), .int .u64 (c 1), .int .u64 (c 2), .int .u64 (c 3)]] w fun e w' => e = .returned (.bool true) ∧ Below w.heap.size w w' := by
  have E := fun w => eq_c he w
  have i1 : (-9223372036854775808 : Int) ≤ 0 := by omega
  have i2 : (0 : Int) ≤ 9223372036854775807 := by omega
  have hwn : IntKind.i64.wrap (-n) = -n := IntWalk.i64_in _ (by omega)
  have hL := live_alloc (live_alloc (live_alloc (live_nil w) a) b) c
  simp only [World.size_alloc] at hL
  have Xhn := Lib.hid hn
  have Xhm := Lib.hid hm
  have Xhn2 := Lib.hid hn2
  have Xhn3 := Lib.hid hn3
  have Xhx := Lib.hid hx
  have Xhy := Lib.hid hy
  have Xhz := Lib.hid hz
  have Xhsg := Lib.hid hsg
  have Xhcz := Lib.hid hcz
  have Xhe := Lib.hid he
  have Xho1 := Lib.hid ho1
  have Xho2 := Lib.hid ho2
  clear hn hm hn2 hn3 hx hy hz hsg hcz he ho1 ho2
  go_enter Try.func6, Try.ntmps6
  go_wp2_with fail
  obtain ⟨V0, hV0⟩ : ∃ V, ((w.alloc (.cells #[.int .u64 (a 0), .int .u64 (a 1), .int .u64 (a 2), .int .u64 (a 3)] 24)).alloc (.cells #[.int .u64 (b 0), .int .u64 (b 1), .int .u64 (b 2), .int .u64 (b 3)] 24)).alloc (.cells #[.int .u64 (c 0), .int .u64 (c 1), .int .u64 (c 2), .int .u64 (c 3)] 24) = V := ⟨_, rfl⟩
  rw [hV0] at hL ⊢
  obtain ⟨Bc, hBc⟩ : ∃ B, w.heap.size + 1 + 1 = B := ⟨_, rfl⟩
  rw [hBc] at hL ⊢
  obtain ⟨Bb, hBb⟩ : ∃ B, w.heap.size + 1 = B := ⟨_, rfl⟩
  rw [hBb] at hL ⊢
  obtain ⟨Ba, hBa⟩ : ∃ B, w.heap.size = B := ⟨_, rfl⟩
  rw [hBa] at hL ⊢
  clear hV0 hBc hBb hBa
  refine (cmp_c ha hb Xhn.out _).mono ?_
  rintro e W3 ⟨rfl, hB⟩
  have hL2 := live_below hL hB
  clear hB hL
  have hL := hL2
  clear hL2
  have q4a := (live_get hL Ba a (by simp)).cell 0 (by omega)
  have q4b := (live_get hL Ba a (by simp)).cell 1 (by omega)
  have q4c := (live_get hL Ba a (by simp)).cell 2 (by omega)
  have q4d := (live_get hL Ba a (by simp)).cell 3 (by omega)
  have q5a := (live_get hL Bb b (by simp)).cell 0 (by omega)
  have q5b := (live_get hL Bb b (by simp)).cell 1 (by omega)
  have q5c := (live_get hL Bb b (by simp)).cell 2 (by omega)
  have q5d := (live_get hL Bb b (by simp)).cell 3 (by omega)
  go_wp2_with fail
  clear q4a q4b q4c q4d q5a q5b q5c q5d
  refine (cmp_c hb ha Xhm.out _).mono ?_
  rintro e W6 ⟨rfl, hB⟩
  have hL2 := live_below hL hB
  clear hB hL
  have hL := hL2
  clear hL2
  have q7a := (live_get hL Ba a (by simp)).cell 0 (by omega)
  have q7b := (live_get hL Ba a (by simp)).cell 1 (by omega)
  have q7c := (live_get hL Ba a (by simp)).cell 2 (by omega)
  have q7d := (live_get hL Ba a (by simp)).cell 3 (by omega)
  have q8a := (live_get hL Bb b (by simp)).cell 0 (by omega)
  have q8b := (live_get hL Bb b (by simp)).cell 1 (by omega)
  have q8c := (live_get hL Bb b (by simp)).cell 2 (by omega)
  have q8d := (live_get hL Bb b (by simp)).cell 3 (by omega)
  go_wp2_with fail
  clear q7a q7b q7c q7d q8a q8b q8c q8d
  refine (cmp_c ha hb Xhn.out _).mono ?_
  rintro e W9 ⟨rfl, hB⟩
  have hL2 := live_below hL hB
  clear hB hL
  have hL := hL2
  clear hL2
  have q10a := (live_get hL Ba a (by simp)).cell 0 (by omega)
  have q10b := (live_get hL Ba a (by simp)).cell 1 (by omega)
  have q10c := (live_get hL Ba a (by simp)).cell 2 (by omega)
  have q10d := (live_get hL Ba a (by simp)).cell 3 (by omega)
  go_wp2_with fail
  clear q10a q10b q10c q10d
  refine (neg_c ha Xhx.out Xho1.out _).mono ?_
  rintro e W11 ⟨rfl, hB⟩
  have hL2 := live_alloc (live_below hL hB) x
  clear hB hL
  have hL := hL2
  clear hL2
  have q12a := (live_get hL Bb b (by simp)).cell 0 (by omega)
  have q12b := (live_get hL Bb b (by simp)).cell 1 (by omega)
  have q12c := (live_get hL Bb b (by simp)).cell 2 (by omega)
  have q12d := (live_get hL Bb b (by simp)).cell 3 (by omega)
  go_wp2_with fail
  clear q12a q12b q12c q12d
  obtain ⟨B13, hBx⟩ : ∃ B, W11.heap.size = B := ⟨_, rfl⟩
  obtain ⟨V13, hVx⟩ : ∃ V, W11.alloc (.cells #[.int .u64 (x 0), .int .u64 (x 1), .int .u64 (x 2), .int .u64 (x 3)] 24) = V := ⟨_, rfl⟩
  rw [hBx, hVx] at hL
  rw [hBx, hVx]
  clear hBx hVx
  refine (neg_c hb Xhy.out Xho2.out _).mono ?_
  rintro e W14 ⟨rfl, hB⟩
  have hL2 := live_alloc (live_below hL hB) y
  clear hB hL
  have hL := hL2
  clear hL2
  go_wp2_with fail
  obtain ⟨B15, hBx⟩ : ∃ B, W14.heap.size = B := ⟨_, rfl⟩
  obtain ⟨V15, hVx⟩ : ∃ V, W14.alloc (.cells #[.int .u64 (y 0), .int .u64 (y 1), .int .u64 (y 2), .int .u64 (y 3)] 24) = V := ⟨_, rfl⟩
  rw [hBx, hVx] at hL
  rw [hBx, hVx]
  clear hBx hVx
  refine wp_region_held_drew (S := fun W' => Live w [(B15, y), (B13, x), (Bc, c), (Bb, b), (Ba, a)] W') (by kernel_rfl) (live_drew hL) (fun hHeld => ?_)
  obtain ⟨D16, hW0⟩ : ∃ W0, V15.drew = W0 := ⟨_, rfl⟩
  rw [hW0] at hHeld ⊢
  clear hW0 hL
  refine wpAnyH_take (i := 0) (oi := { dst := some 65, op := Go.Op.move (Go.Operand.tmp 9), type := 4, pos := "law.go:135", after := #[], guard := none }) (v := ?_) rfl (by kernel_rfl) (by kernel_rfl) (by kernel_rfl) (fun _ _ _ h => h) (Or.inl ⟨by rfl, ?_⟩) (by assumption) ?_
  rotate_left
  · intro w hSw
    go_simp
    try with_reducible rfl
  try simp only [Act.put, List.setIfInBounds_toArray, List.set_cons_zero, List.set_cons_succ]
  refine wpAnyH_take (i := 1) (oi := { dst := some 66, op := Go.Op.move (Go.Operand.tmp 65), type := 4, pos := "law.go:135", after := #[{ on := 0, ground := Go.Ground.data }], guard := none }) (v := ?_) rfl (by kernel_rfl) (by kernel_rfl) (by kernel_rfl) (fun _ _ _ h => h) (Or.inl ⟨by rfl, ?_⟩) (by assumption) ?_
  rotate_left
  · intro w hSw
    go_simp
    try with_reducible rfl
  try simp only [Act.put, List.setIfInBounds_toArray, List.set_cons_zero, List.set_cons_succ]
  refine wpAnyH_take (i := 2) (oi := { dst := some 67, op := Go.Op.move (Go.Operand.tmp 11), type := 4, pos := "law.go:135", after := #[{ on := 1, ground := Go.Ground.guard }], guard := some (1, false) }) (v := undef) rfl (by kernel_rfl) (by kernel_rfl) (by kernel_rfl) (fun _ _ _ h => h) (Or.inr ⟨by rfl, rfl⟩) (by assumption) ?_
  try simp only [Act.put, List.setIfInBounds_toArray, List.set_cons_zero, List.set_cons_succ]
  refine wpAnyH_take (i := 3) (oi := { dst := some 68, op := Go.Op.pick (Go.Operand.tmp 66) (Go.Operand.const (Go.Value.bool true)) (Go.Operand.tmp 67), type := 4, pos := "law.go:135", after := #[{ on := 1, ground := Go.Ground.data }, { on := 2, ground := Go.Ground.data }], guard := none }) (v := ?_) rfl (by kernel_rfl) (by kernel_rfl) (by kernel_rfl) (fun _ _ _ h => h) (Or.inl ⟨by rfl, ?_⟩) (by assumption) ?_
  rotate_left
  · intro w hSw
    go_simp
    try with_reducible rfl
  try simp only [Act.put, List.setIfInBounds_toArray, List.set_cons_zero, List.set_cons_succ]
  refine wpAnyH_take (i := 4) (oi := { dst := some 69, op := Go.Op.move (Go.Operand.tmp 68), type := 4, pos := "law.go:135", after := #[{ on := 3, ground := Go.Ground.data }, { on := 1, ground := Go.Ground.chain }], guard := none }) (v := ?_) rfl (by kernel_rfl) (by kernel_rfl) (by kernel_rfl) (fun _ _ _ h => h) (Or.inl ⟨by rfl, ?_⟩) (by assumption) ?_
  rotate_left
  · intro w hSw
    go_simp
    try with_reducible rfl
  try simp only [Act.put, List.setIfInBounds_toArray, List.set_cons_zero, List.set_cons_succ]
  refine wpAnyH_take (i := 5) (oi := { dst := some 70, op := Go.Op.load 24 (Go.Operand.tmp 8), type := 24, pos := "law.go:135", after := #[{ on := 4, ground := Go.Ground.guard }], guard := some (4, false) }) (v := undef) rfl (by kernel_rfl) (by kernel_rfl) (by kernel_rfl) (fun _ _ _ h => h) (Or.inr ⟨by rfl, rfl⟩) (by assumption) ?_
  try simp only [Act.put, List.setIfInBounds_toArray, List.set_cons_zero, List.set_cons_succ]
  refine wpAnyH_take (i := 6) (oi := { dst := some 71, op := Go.Op.load 24 (Go.Operand.tmp 10), type := 24, pos := "law.go:135", after := #[{ on := 4, ground := Go.Ground.guard }], guard := some (4, false) }) (v := undef) rfl (by kernel_rfl) (by kernel_rfl) (by kernel_rfl) (fun _ _ _ h => h) (Or.inr ⟨by rfl, rfl⟩) (by assumption) ?_
  try simp only [Act.put, List.setIfInBounds_toArray, List.set_cons_zero, List.set_cons_succ]
  refine wpAnyH_take (i := 8) (oi := { dst := some 73, op := Go.Op.move (Go.Operand.tmp 7), type := 3, pos := "law.go:135", after := #[{ on := 4, ground := Go.Ground.guard }], guard := some (4, false) }) (v := undef) rfl (by kernel_rfl) (by kernel_rfl) (by kernel_rfl) (fun _ _ _ h => h) (Or.inr ⟨by rfl, rfl⟩) (by assumption) ?_
  try simp only [Act.put, List.setIfInBounds_toArray, List.set_cons_zero, List.set_cons_succ]
  refine wpAnyH_take (i := 9) (oi := { dst := some 74, op := Go.Op.unOp Go.UnOp.neg 3 (Go.Operand.tmp 73), type := 3, pos := "law.go:135", after := #[{ on := 8, ground := Go.Ground.data }, { on := 4, ground := Go.Ground.guard }], guard := some (4, false) }) (v := undef) rfl (by kernel_rfl) (by kernel_rfl) (by kernel_rfl) (fun _ _ _ h => h) (Or.inr ⟨by rfl, rfl⟩) (by assumption) ?_
  try simp only [Act.put, List.setIfInBounds_toArray, List.set_cons_zero, List.set_cons_succ]
  refine wpAnyH_ready (rs := [7]) (by kernel_rfl) (by simp) ?_
  refine AllReadyH.cons (o := { dst := some 72, op := Go.Op.call { callee := Go.Callee.value (Go.Operand.func 23), args := #[Go.Operand.tmp 70, Go.Operand.tmp 71], argTypes := #[24, 24] }, type := 3, pos := "law.go:135", after := #[{ on := 5, ground := Go.Ground.data }, { on := 6, ground := Go.Ground.data }, { on := 4, ground := Go.Ground.chain }, { on := 4, ground := Go.Ground.guard }], guard := some (4, false) }) rfl (fun K hK => ?_) AllReadyH.nil
  go_simp
  refine hK.out _ _ ?_ (fun hHeld2 => ?_)
  · exact hHeld
  clear hK K hHeld
  have hHeld := hHeld2
  clear hHeld2
  try simp only [Act.put, List.setIfInBounds_toArray, List.set_cons_zero, List.set_cons_succ]
  refine wpAnyH_take (i := 10) (oi := { dst := some 75, op := Go.Op.binOp Go.BinOp.eql 3 (Go.Operand.tmp 72) (Go.Operand.tmp 74) 3, type := 4, pos := "law.go:135", after := #[{ on := 7, ground := Go.Ground.data }, { on := 9, ground := Go.Ground.data }, { on := 4, ground := Go.Ground.guard }], guard := some (4, false) }) (v := undef) rfl (by kernel_rfl) (by kernel_rfl) (by kernel_rfl) (fun _ _ _ h => h) (Or.inr ⟨by rfl, rfl⟩) (by assumption) ?_
  try simp only [Act.put, List.setIfInBounds_toArray, List.set_cons_zero, List.set_cons_succ]
  refine wpAnyH_take (i := 11) (oi := { dst := some 76, op := Go.Op.pick (Go.Operand.tmp 69) (Go.Operand.const (Go.Value.bool true)) (Go.Operand.tmp 75), type := 4, pos := "law.go:135", after := #[{ on := 4, ground := Go.Ground.data }, { on := 10, ground := Go.Ground.data }], guard := none }) (v := ?_) rfl (by kernel_rfl) (by kernel_rfl) (by kernel_rfl) (fun _ _ _ h => h) (Or.inl ⟨by rfl, ?_⟩) (by assumption) ?_
  rotate_left
  · intro w hSw
    go_simp
    try with_reducible rfl
  try simp only [Act.put, List.setIfInBounds_toArray, List.set_cons_zero, List.set_cons_succ]
  refine wpAnyH_take (i := 12) (oi := { dst := some 77, op := Go.Op.move (Go.Operand.tmp 76), type := 4, pos := "law.go:135", after := #[{ on := 11, ground := Go.Ground.data }, { on := 7, ground := Go.Ground.chain }], guard := none }) (v := ?_) rfl (by kernel_rfl) (by kernel_rfl) (by kernel_rfl) (fun _ _ _ h => h) (Or.inl ⟨by rfl, ?_⟩) (by assumption) ?_
  rotate_left
  · intro w hSw
    go_simp
    try with_reducible rfl
  try simp only [Act.put, List.setIfInBounds_toArray, List.set_cons_zero, List.set_cons_succ]
  refine wpAnyH_take (i := 13) (oi := { dst := some 78, op := Go.Op.load 24 (Go.Operand.tmp 3), type := 24, pos := "law.go:135", after := #[{ on := 12, ground := Go.Ground.guard }], guard := some (12, true) }) (v := ?_) rfl (by kernel_rfl) (by kernel_rfl) (by kernel_rfl) (fun _ _ _ h => h) (Or.inl ⟨by rfl, ?_⟩) (by assumption) ?_
  rotate_left
  · intro w hSw
    have k0 := (live_get hSw Ba a (by simp)).cell 0 (by omega)
    have k1 := (live_get hSw Ba a (by simp)).cell 1 (by omega)
    have k2 := (live_get hSw Ba a (by simp)).cell 2 (by omega)
    have k3 := (live_get hSw Ba a (by simp)).cell 3 (by omega)
    go_simp
    try with_reducible rfl
  try simp only [Act.put, List.setIfInBounds_toArray, List.set_cons_zero, List.set_cons_succ]
  refine wpAnyH_take (i := 15) (oi := { dst := some 80, op := Go.Op.load 24 (Go.Operand.tmp 3), type := 24, pos := "law.go:135", after := #[{ on := 12, ground := Go.Ground.guard }], guard := some (12, true) }) (v := ?_) rfl (by kernel_rfl) (by kernel_rfl) (by kernel_rfl) (fun _ _ _ h => h) (Or.inl ⟨by rfl, ?_⟩) (by assumption) ?_
  rotate_left
  · intro w hSw
    have k0 := (live_get hSw Ba a (by simp)).cell 0 (by omega)
    have k1 := (live_get hSw Ba a (by simp)).cell 1 (by omega)
    have k2 := (live_get hSw Ba a (by simp)).cell 2 (by omega)
    have k3 := (live_get hSw Ba a (by simp)).cell 3 (by omega)
    go_simp
    try with_reducible rfl
  try simp only [Act.put, List.setIfInBounds_toArray, List.set_cons_zero, List.set_cons_succ]
  refine wpAnyH_ready (rs := [14]) (by kernel_rfl) (by simp) ?_
  refine AllReadyH.cons (o := { dst := some 79, op := Go.Op.call { callee := Go.Callee.value (Go.Operand.func 25), args := #[Go.Operand.tmp 78], argTypes := #[24] }, type := 3, pos := "law.go:135", after := #[{ on := 13, ground := Go.Ground.data }, { on := 12, ground := Go.Ground.chain }, { on := 12, ground := Go.Ground.guard }], guard := some (12, true) }) rfl (fun K hK => ?_) AllReadyH.nil
  go_simp
  refine (sign_c ha Xhsg.out _).mono ?_
  rintro e W17 ⟨rfl, hBl⟩
  refine hK.out _ _ ?_ (fun hHeld2 => ?_)
  · exact live_below hHeld hBl
  clear hK K hHeld
  have hHeld := hHeld2
  clear hHeld2
  try simp only [Act.put, List.setIfInBounds_toArray, List.set_cons_zero, List.set_cons_succ]
  refine wpAnyH_ready (rs := [16]) (by kernel_rfl) (by simp) ?_
  refine AllReadyH.cons (o := { dst := some 81, op := Go.Op.call { callee := Go.Callee.value (Go.Operand.func 21), args := #[Go.Operand.const (Go.Value.int Go.IntKind.i64 0)], argTypes := #[3] }, type := 24, pos := "law.go:135", after := #[{ on := 14, ground := Go.Ground.chain }, { on := 12, ground := Go.Ground.guard }], guard := some (12, true) }) rfl (fun K hK => ?_) AllReadyH.nil
  go_simp
  refine (of_c i1 i2 Xhz.out _).mono ?_
  rintro e W18 ⟨rfl, hBl⟩
  refine hK.out _ _ ?_ (fun hHeld2 => ?_)
  · exact live_below hHeld hBl
  clear hK K hHeld
  have hHeld := hHeld2
  clear hHeld2
  try simp only [Act.put, List.setIfInBounds_toArray, List.set_cons_zero, List.set_cons_succ]
  refine wpAnyH_ready (rs := [17]) (by kernel_rfl) (by simp) ?_
  refine AllReadyH.cons (o := { dst := some 82, op := Go.Op.call { callee := Go.Callee.value (Go.Operand.func 23), args := #[Go.Operand.tmp 80, Go.Operand.tmp 81], argTypes := #[24, 24] }, type := 3, pos := "law.go:135", after := #[{ on := 15, ground := Go.Ground.data }, { on := 16, ground := Go.Ground.data }, { on := 16, ground := Go.Ground.chain }, { on := 12, ground := Go.Ground.guard }], guard := some (12, true) }) rfl (fun K hK => ?_) AllReadyH.nil
  go_simp
  refine (cmp_c ha vz Xhcz.out _).mono ?_
  rintro e W19 ⟨rfl, hBl⟩
  refine hK.out _ _ ?_ (fun hHeld2 => ?_)
  · exact live_below hHeld hBl
  clear hK K hHeld
  have hHeld := hHeld2
  clear hHeld2
  try simp only [Act.put, List.setIfInBounds_toArray, List.set_cons_zero, List.set_cons_succ]
  refine wpAnyH_take (i := 18) (oi := { dst := some 83, op := Go.Op.binOp Go.BinOp.eql 3 (Go.Operand.tmp 79) (Go.Operand.tmp 82) 3, type := 4, pos := "law.go:135", after := #[{ on := 14, ground := Go.Ground.data }, { on := 17, ground := Go.Ground.data }, { on := 12, ground := Go.Ground.guard }], guard := some (12, true) }) (v := ?_) rfl (by kernel_rfl) (by kernel_rfl) (by kernel_rfl) (fun _ _ _ h => h) (Or.inl ⟨by rfl, ?_⟩) (by assumption) ?_
  rotate_left
  · intro w hSw
    go_simp
    try with_reducible rfl
  try simp only [Act.put, List.setIfInBounds_toArray, List.set_cons_zero, List.set_cons_succ]
  refine wpAnyH_take (i := 19) (oi := { dst := some 84, op := Go.Op.pick (Go.Operand.tmp 77) (Go.Operand.tmp 83) (Go.Operand.const (Go.Value.bool false)), type := 4, pos := "law.go:135", after := #[{ on := 12, ground := Go.Ground.data }, { on := 18, ground := Go.Ground.data }], guard := none }) (v := ?_) rfl (by kernel_rfl) (by kernel_rfl) (by kernel_rfl) (fun _ _ _ h => h) (Or.inl ⟨by rfl, ?_⟩) (by assumption) ?_
  rotate_left
  · intro w hSw
    go_simp
    try with_reducible rfl
  try simp only [Act.put, List.setIfInBounds_toArray, List.set_cons_zero, List.set_cons_succ]
  refine wpAnyH_take (i := 20) (oi := { dst := some 85, op := Go.Op.move (Go.Operand.tmp 84), type := 4, pos := "law.go:135", after := #[{ on := 19, ground := Go.Ground.data }, { on := 17, ground := Go.Ground.chain }], guard := none }) (v := ?_) rfl (by kernel_rfl) (by kernel_rfl) (by kernel_rfl) (fun _ _ _ h => h) (Or.inl ⟨by rfl, ?_⟩) (by assumption) ?_
  rotate_left
  · intro w hSw
    go_simp
    try with_reducible rfl
  try simp only [Act.put, List.setIfInBounds_toArray, List.set_cons_zero, List.set_cons_succ]
  refine wpAnyH_ready (rs := [21]) (by kernel_rfl) (by simp) ?_
  refine AllReadyH.cons (o := { dst := some 86, op := Go.Op.call { callee := Go.Callee.value (Go.Operand.func 8), args := #[], argTypes := #[] }, type := 4, pos := "law.go:135", after := #[{ on := 20, ground := Go.Ground.chain }, { on := 20, ground := Go.Ground.guard }], guard := some (20, true) }) rfl (fun K hK => ?_) AllReadyH.nil
  go_simp
  refine (wakes_x _).mono ?_
  rintro e W20 ⟨rfl, hBl⟩
  refine hK.out _ _ ?_ (fun hHeld2 => ?_)
  · exact live_below hHeld hBl
  clear hK K hHeld
  have hHeld := hHeld2
  clear hHeld2
  try simp only [Act.put, List.setIfInBounds_toArray, List.set_cons_zero, List.set_cons_succ]
  refine wpAnyH_take (i := 22) (oi := { dst := some 87, op := Go.Op.pick (Go.Operand.tmp 85) (Go.Operand.tmp 86) (Go.Operand.const (Go.Value.bool false)), type := 4, pos := "law.go:135", after := #[{ on := 20, ground := Go.Ground.data }, { on := 21, ground := Go.Ground.data }], guard := none }) (v := ?_) rfl (by kernel_rfl) (by kernel_rfl) (by kernel_rfl) (fun _ _ _ h => h) (Or.inl ⟨by rfl, ?_⟩) (by assumption) ?_
  rotate_left
  · intro w hSw
    go_simp
    try with_reducible rfl
  try simp only [Act.put, List.setIfInBounds_toArray, List.set_cons_zero, List.set_cons_succ]
  refine wpAnyH_take (i := 23) (oi := { dst := some 6, op := Go.Op.assign (Go.Operand.tmp 87), type := 4, pos := "law.go:135", after := #[{ on := 22, ground := Go.Ground.data }, { on := 21, ground := Go.Ground.chain }, { on := 0, ground := Go.Ground.phase }, { on := 1, ground := Go.Ground.phase }, { on := 2, ground := Go.Ground.phase }, { on := 3, ground := Go.Ground.phase }, { on := 4, ground := Go.Ground.phase }, { on := 5, ground := Go.Ground.phase }, { on := 6, ground := Go.Ground.phase }, { on := 7, ground := Go.Ground.phase }, { on := 8, ground := Go.Ground.phase }, { on := 9, ground := Go.Ground.phase }, { on := 10, ground := Go.Ground.phase }, { on := 11, ground := Go.Ground.phase }, { on := 12, ground := Go.Ground.phase }, { on := 13, ground := Go.Ground.phase }, { on := 14, ground := Go.Ground.phase }, { on := 15, ground := Go.Ground.phase }, { on := 16, ground := Go.Ground.phase }, { on := 17, ground := Go.Ground.phase }, { on := 18, ground := Go.Ground.phase }, { on := 19, ground := Go.Ground.phase }, { on := 20, ground := Go.Ground.phase }, { on := 21, ground := Go.Ground.phase }, { on := 22, ground := Go.Ground.phase }], guard := none }) (v := ?_) rfl (by kernel_rfl) (by kernel_rfl) (by kernel_rfl) (fun _ _ _ h => h) (Or.inl ⟨by rfl, ?_⟩) (by assumption) ?_
  rotate_left
  · intro w hSw
    go_simp
    try with_reducible rfl
  try simp only [Act.put, List.setIfInBounds_toArray, List.set_cons_zero, List.set_cons_succ]
  refine wpAnyH_done (by kernel_rfl) ?_ _
  have hL := hHeld
  clear hHeld
  go_wp2
  go_ret
  exact ⟨rfl, hL.2⟩

set_option maxRecDepth 100000 in
set_option maxHeartbeats 4000000 in
theorem or_01 (a b c x y z : Nat → Nat) (ze o2 : Bool) (n n2 n3 sg : Int) (ha : Wds a) (hb : Wds b) (hc : Wds c) (vx : Wds x) (vy : Wds y) (vz : Wds z)
    (hn : cmpR a b = n) (hm : cmpR b a = -n) (hn2 : cmpR b c = n2) (hn3 : cmpR a c = n3) (hx : negR a = x) (hy : negR b = y) (hz : ofR 0 = z) (hsg : signI a = sg) (hcz : cmpR a z = sg) (he : eqB a b = ze)
    (b1 : -1 ≤ n) (b2 : n ≤ 1) (hze : (n == 0) = ze) (hl1 : decide (n < -1) = false) (hl2 : decide (1 < n) = false)
    (hg1 : decide (n ≤ 0) = false) (ho1 : negO a = false) (ho2 : negO b = true) (w : World) :
    Calls Try.prog 6 #[.agg #[.int .u64 (a 0), .int .u64 (a 1), .int .u64 (a 2), .int .u64 (a 3)], .agg #[.int .u64 (b 0), .int .u64 (b 1), .int .u64 (b 2), .int .u64 (b 3)], .agg #[.int .u64 (c 0), .int .u64 (c 1), .int .u64 (c 2), .int .u64 (c 3)]] w fun e w' => e = .returned (.bool true) ∧ Below w.heap.size w w' := by
  have E := fun w => eq_c he w
  have i1 : (-9223372036854775808 : Int) ≤ 0 := by omega
  have i2 : (0 : Int) ≤ 9223372036854775807 := by omega
  have hwn : IntKind.i64.wrap (-n) = -n := IntWalk.i64_in _ (by omega)
  have hL := live_alloc (live_alloc (live_alloc (live_nil w) a) b) c
  simp only [World.size_alloc] at hL
  have Xhn := Lib.hid hn
  have Xhm := Lib.hid hm
  have Xhn2 := Lib.hid hn2
  have Xhn3 := Lib.hid hn3
  have Xhx := Lib.hid hx
  have Xhy := Lib.hid hy
  have Xhz := Lib.hid hz
  have Xhsg := Lib.hid hsg
  have Xhcz := Lib.hid hcz
  have Xhe := Lib.hid he
  have Xho1 := Lib.hid ho1
  have Xho2 := Lib.hid ho2
  clear hn hm hn2 hn3 hx hy hz hsg hcz he ho1 ho2
  go_enter Try.func6, Try.ntmps6
  go_wp2_with fail
  obtain ⟨V0, hV0⟩ : ∃ V, ((w.alloc (.cells #[.int .u64 (a 0), .int .u64 (a 1), .int .u64 (a 2), .int .u64 (a 3)] 24)).alloc (.cells #[.int .u64 (b 0), .int .u64 (b 1), .int .u64 (b 2), .int .u64 (b 3)] 24)).alloc (.cells #[.int .u64 (c 0), .int .u64 (c 1), .int .u64 (c 2), .int .u64 (c 3)] 24) = V := ⟨_, rfl⟩
  rw [hV0] at hL ⊢
  obtain ⟨Bc, hBc⟩ : ∃ B, w.heap.size + 1 + 1 = B := ⟨_, rfl⟩
  rw [hBc] at hL ⊢
  obtain ⟨Bb, hBb⟩ : ∃ B, w.heap.size + 1 = B := ⟨_, rfl⟩
  rw [hBb] at hL ⊢
  obtain ⟨Ba, hBa⟩ : ∃ B, w.heap.size = B := ⟨_, rfl⟩
  rw [hBa] at hL ⊢
  clear hV0 hBc hBb hBa
  refine (cmp_c ha hb Xhn.out _).mono ?_
  rintro e W3 ⟨rfl, hB⟩
  have hL2 := live_below hL hB
  clear hB hL
  have hL := hL2
  clear hL2
  have q4a := (live_get hL Ba a (by simp)).cell 0 (by omega)
  have q4b := (live_get hL Ba a (by simp)).cell 1 (by omega)
  have q4c := (live_get hL Ba a (by simp)).cell 2 (by omega)
  have q4d := (live_get hL Ba a (by simp)).cell 3 (by omega)
  have q5a := (live_get hL Bb b (by simp)).cell 0 (by omega)
  have q5b := (live_get hL Bb b (by simp)).cell 1 (by omega)
  have q5c := (live_get hL Bb b (by simp)).cell 2 (by omega)
  have q5d := (live_get hL Bb b (by simp)).cell 3 (by omega)
  go_wp2_with fail
  clear q4a q4b q4c q4d q5a q5b q5c q5d
  refine (cmp_c hb ha Xhm.out _).mono ?_
  rintro e W6 ⟨rfl, hB⟩
  have hL2 := live_below hL hB
  clear hB hL
  have hL := hL2
  clear hL2
  have q7a := (live_get hL Ba a (by simp)).cell 0 (by omega)
  have q7b := (live_get hL Ba a (by simp)).cell 1 (by omega)
  have q7c := (live_get hL Ba a (by simp)).cell 2 (by omega)
  have q7d := (live_get hL Ba a (by simp)).cell 3 (by omega)
  have q8a := (live_get hL Bb b (by simp)).cell 0 (by omega)
  have q8b := (live_get hL Bb b (by simp)).cell 1 (by omega)
  have q8c := (live_get hL Bb b (by simp)).cell 2 (by omega)
  have q8d := (live_get hL Bb b (by simp)).cell 3 (by omega)
  go_wp2_with fail
  clear q7a q7b q7c q7d q8a q8b q8c q8d
  refine (cmp_c ha hb Xhn.out _).mono ?_
  rintro e W9 ⟨rfl, hB⟩
  have hL2 := live_below hL hB
  clear hB hL
  have hL := hL2
  clear hL2
  have q10a := (live_get hL Ba a (by simp)).cell 0 (by omega)
  have q10b := (live_get hL Ba a (by simp)).cell 1 (by omega)
  have q10c := (live_get hL Ba a (by simp)).cell 2 (by omega)
  have q10d := (live_get hL Ba a (by simp)).cell 3 (by omega)
  go_wp2_with fail
  clear q10a q10b q10c q10d
  refine (neg_c ha Xhx.out Xho1.out _).mono ?_
  rintro e W11 ⟨rfl, hB⟩
  have hL2 := live_alloc (live_below hL hB) x
  clear hB hL
  have hL := hL2
  clear hL2
  have q12a := (live_get hL Bb b (by simp)).cell 0 (by omega)
  have q12b := (live_get hL Bb b (by simp)).cell 1 (by omega)
  have q12c := (live_get hL Bb b (by simp)).cell 2 (by omega)
  have q12d := (live_get hL Bb b (by simp)).cell 3 (by omega)
  go_wp2_with fail
  clear q12a q12b q12c q12d
  obtain ⟨B13, hBx⟩ : ∃ B, W11.heap.size = B := ⟨_, rfl⟩
  obtain ⟨V13, hVx⟩ : ∃ V, W11.alloc (.cells #[.int .u64 (x 0), .int .u64 (x 1), .int .u64 (x 2), .int .u64 (x 3)] 24) = V := ⟨_, rfl⟩
  rw [hBx, hVx] at hL
  rw [hBx, hVx]
  clear hBx hVx
  refine (neg_c hb Xhy.out Xho2.out _).mono ?_
  rintro e W14 ⟨rfl, hB⟩
  have hL2 := live_alloc (live_below hL hB) y
  clear hB hL
  have hL := hL2
  clear hL2
  go_wp2_with fail
  obtain ⟨B15, hBx⟩ : ∃ B, W14.heap.size = B := ⟨_, rfl⟩
  obtain ⟨V15, hVx⟩ : ∃ V, W14.alloc (.cells #[.int .u64 (y 0), .int .u64 (y 1), .int .u64 (y 2), .int .u64 (y 3)] 24) = V := ⟨_, rfl⟩
  rw [hBx, hVx] at hL
  rw [hBx, hVx]
  clear hBx hVx
  refine wp_region_held_drew (S := fun W' => Live w [(B15, y), (B13, x), (Bc, c), (Bb, b), (Ba, a)] W') (by kernel_rfl) (live_drew hL) (fun hHeld => ?_)
  obtain ⟨D16, hW0⟩ : ∃ W0, V15.drew = W0 := ⟨_, rfl⟩
  rw [hW0] at hHeld ⊢
  clear hW0 hL
  refine wpAnyH_take (i := 0) (oi := { dst := some 65, op := Go.Op.move (Go.Operand.tmp 9), type := 4, pos := "law.go:135", after := #[], guard := none }) (v := ?_) rfl (by kernel_rfl) (by kernel_rfl) (by kernel_rfl) (fun _ _ _ h => h) (Or.inl ⟨by rfl, ?_⟩) (by assumption) ?_
  rotate_left
  · intro w hSw
    go_simp
    try with_reducible rfl
  try simp only [Act.put, List.setIfInBounds_toArray, List.set_cons_zero, List.set_cons_succ]
  refine wpAnyH_take (i := 1) (oi := { dst := some 66, op := Go.Op.move (Go.Operand.tmp 65), type := 4, pos := "law.go:135", after := #[{ on := 0, ground := Go.Ground.data }], guard := none }) (v := ?_) rfl (by kernel_rfl) (by kernel_rfl) (by kernel_rfl) (fun _ _ _ h => h) (Or.inl ⟨by rfl, ?_⟩) (by assumption) ?_
  rotate_left
  · intro w hSw
    go_simp
    try with_reducible rfl
  try simp only [Act.put, List.setIfInBounds_toArray, List.set_cons_zero, List.set_cons_succ]
  refine wpAnyH_take (i := 2) (oi := { dst := some 67, op := Go.Op.move (Go.Operand.tmp 11), type := 4, pos := "law.go:135", after := #[{ on := 1, ground := Go.Ground.guard }], guard := some (1, false) }) (v := ?_) rfl (by kernel_rfl) (by kernel_rfl) (by kernel_rfl) (fun _ _ _ h => h) (Or.inl ⟨by rfl, ?_⟩) (by assumption) ?_
  rotate_left
  · intro w hSw
    go_simp
    try with_reducible rfl
  try simp only [Act.put, List.setIfInBounds_toArray, List.set_cons_zero, List.set_cons_succ]
  refine wpAnyH_take (i := 3) (oi := { dst := some 68, op := Go.Op.pick (Go.Operand.tmp 66) (Go.Operand.const (Go.Value.bool true)) (Go.Operand.tmp 67), type := 4, pos := "law.go:135", after := #[{ on := 1, ground := Go.Ground.data }, { on := 2, ground := Go.Ground.data }], guard := none }) (v := ?_) rfl (by kernel_rfl) (by kernel_rfl) (by kernel_rfl) (fun _ _ _ h => h) (Or.inl ⟨by rfl, ?_⟩) (by assumption) ?_
  rotate_left
  · intro w hSw
    go_simp
    try with_reducible rfl
  try simp only [Act.put, List.setIfInBounds_toArray, List.set_cons_zero, List.set_cons_succ]
  refine wpAnyH_take (i := 4) (oi := { dst := some 69, op := Go.Op.move (Go.Operand.tmp 68), type := 4, pos := "law.go:135", after := #[{ on := 3, ground := Go.Ground.data }, { on := 1, ground := Go.Ground.chain }], guard := none }) (v := ?_) rfl (by kernel_rfl) (by kernel_rfl) (by kernel_rfl) (fun _ _ _ h => h) (Or.inl ⟨by rfl, ?_⟩) (by assumption) ?_
  rotate_left
  · intro w hSw
    go_simp
    try with_reducible rfl
  try simp only [Act.put, List.setIfInBounds_toArray, List.set_cons_zero, List.set_cons_succ]
  refine wpAnyH_take (i := 5) (oi := { dst := some 70, op := Go.Op.load 24 (Go.Operand.tmp 8), type := 24, pos := "law.go:135", after := #[{ on := 4, ground := Go.Ground.guard }], guard := some (4, false) }) (v := undef) rfl (by kernel_rfl) (by kernel_rfl) (by kernel_rfl) (fun _ _ _ h => h) (Or.inr ⟨by rfl, rfl⟩) (by assumption) ?_
  try simp only [Act.put, List.setIfInBounds_toArray, List.set_cons_zero, List.set_cons_succ]
  refine wpAnyH_take (i := 6) (oi := { dst := some 71, op := Go.Op.load 24 (Go.Operand.tmp 10), type := 24, pos := "law.go:135", after := #[{ on := 4, ground := Go.Ground.guard }], guard := some (4, false) }) (v := undef) rfl (by kernel_rfl) (by kernel_rfl) (by kernel_rfl) (fun _ _ _ h => h) (Or.inr ⟨by rfl, rfl⟩) (by assumption) ?_
  try simp only [Act.put, List.setIfInBounds_toArray, List.set_cons_zero, List.set_cons_succ]
  refine wpAnyH_take (i := 8) (oi := { dst := some 73, op := Go.Op.move (Go.Operand.tmp 7), type := 3, pos := "law.go:135", after := #[{ on := 4, ground := Go.Ground.guard }], guard := some (4, false) }) (v := undef) rfl (by kernel_rfl) (by kernel_rfl) (by kernel_rfl) (fun _ _ _ h => h) (Or.inr ⟨by rfl, rfl⟩) (by assumption) ?_
  try simp only [Act.put, List.setIfInBounds_toArray, List.set_cons_zero, List.set_cons_succ]
  refine wpAnyH_take (i := 9) (oi := { dst := some 74, op := Go.Op.unOp Go.UnOp.neg 3 (Go.Operand.tmp 73), type := 3, pos := "law.go:135", after := #[{ on := 8, ground := Go.Ground.data }, { on := 4, ground := Go.Ground.guard }], guard := some (4, false) }) (v := undef) rfl (by kernel_rfl) (by kernel_rfl) (by kernel_rfl) (fun _ _ _ h => h) (Or.inr ⟨by rfl, rfl⟩) (by assumption) ?_
  try simp only [Act.put, List.setIfInBounds_toArray, List.set_cons_zero, List.set_cons_succ]
  refine wpAnyH_ready (rs := [7]) (by kernel_rfl) (by simp) ?_
  refine AllReadyH.cons (o := { dst := some 72, op := Go.Op.call { callee := Go.Callee.value (Go.Operand.func 23), args := #[Go.Operand.tmp 70, Go.Operand.tmp 71], argTypes := #[24, 24] }, type := 3, pos := "law.go:135", after := #[{ on := 5, ground := Go.Ground.data }, { on := 6, ground := Go.Ground.data }, { on := 4, ground := Go.Ground.chain }, { on := 4, ground := Go.Ground.guard }], guard := some (4, false) }) rfl (fun K hK => ?_) AllReadyH.nil
  go_simp
  refine hK.out _ _ ?_ (fun hHeld2 => ?_)
  · exact hHeld
  clear hK K hHeld
  have hHeld := hHeld2
  clear hHeld2
  try simp only [Act.put, List.setIfInBounds_toArray, List.set_cons_zero, List.set_cons_succ]
  refine wpAnyH_take (i := 10) (oi := { dst := some 75, op := Go.Op.binOp Go.BinOp.eql 3 (Go.Operand.tmp 72) (Go.Operand.tmp 74) 3, type := 4, pos := "law.go:135", after := #[{ on := 7, ground := Go.Ground.data }, { on := 9, ground := Go.Ground.data }, { on := 4, ground := Go.Ground.guard }], guard := some (4, false) }) (v := undef) rfl (by kernel_rfl) (by kernel_rfl) (by kernel_rfl) (fun _ _ _ h => h) (Or.inr ⟨by rfl, rfl⟩) (by assumption) ?_
  try simp only [Act.put, List.setIfInBounds_toArray, List.set_cons_zero, List.set_cons_succ]
  refine wpAnyH_take (i := 11) (oi := { dst := some 76, op := Go.Op.pick (Go.Operand.tmp 69) (Go.Operand.const (Go.Value.bool true)) (Go.Operand.tmp 75), type := 4, pos := "law.go:135", after := #[{ on := 4, ground := Go.Ground.data }, { on := 10, ground := Go.Ground.data }], guard := none }) (v := ?_) rfl (by kernel_rfl) (by kernel_rfl) (by kernel_rfl) (fun _ _ _ h => h) (Or.inl ⟨by rfl, ?_⟩) (by assumption) ?_
  rotate_left
  · intro w hSw
    go_simp
    try with_reducible rfl
  try simp only [Act.put, List.setIfInBounds_toArray, List.set_cons_zero, List.set_cons_succ]
  refine wpAnyH_take (i := 12) (oi := { dst := some 77, op := Go.Op.move (Go.Operand.tmp 76), type := 4, pos := "law.go:135", after := #[{ on := 11, ground := Go.Ground.data }, { on := 7, ground := Go.Ground.chain }], guard := none }) (v := ?_) rfl (by kernel_rfl) (by kernel_rfl) (by kernel_rfl) (fun _ _ _ h => h) (Or.inl ⟨by rfl, ?_⟩) (by assumption) ?_
  rotate_left
  · intro w hSw
    go_simp
    try with_reducible rfl
  try simp only [Act.put, List.setIfInBounds_toArray, List.set_cons_zero, List.set_cons_succ]
  refine wpAnyH_take (i := 13) (oi := { dst := some 78, op := Go.Op.load 24 (Go.Operand.tmp 3), type := 24, pos := "law.go:135", after := #[{ on := 12, ground := Go.Ground.guard }], guard := some (12, true) }) (v := ?_) rfl (by kernel_rfl) (by kernel_rfl) (by kernel_rfl) (fun _ _ _ h => h) (Or.inl ⟨by rfl, ?_⟩) (by assumption) ?_
  rotate_left
  · intro w hSw
    have k0 := (live_get hSw Ba a (by simp)).cell 0 (by omega)
    have k1 := (live_get hSw Ba a (by simp)).cell 1 (by omega)
    have k2 := (live_get hSw Ba a (by simp)).cell 2 (by omega)
    have k3 := (live_get hSw Ba a (by simp)).cell 3 (by omega)
    go_simp
    try with_reducible rfl
  try simp only [Act.put, List.setIfInBounds_toArray, List.set_cons_zero, List.set_cons_succ]
  refine wpAnyH_take (i := 15) (oi := { dst := some 80, op := Go.Op.load 24 (Go.Operand.tmp 3), type := 24, pos := "law.go:135", after := #[{ on := 12, ground := Go.Ground.guard }], guard := some (12, true) }) (v := ?_) rfl (by kernel_rfl) (by kernel_rfl) (by kernel_rfl) (fun _ _ _ h => h) (Or.inl ⟨by rfl, ?_⟩) (by assumption) ?_
  rotate_left
  · intro w hSw
    have k0 := (live_get hSw Ba a (by simp)).cell 0 (by omega)
    have k1 := (live_get hSw Ba a (by simp)).cell 1 (by omega)
    have k2 := (live_get hSw Ba a (by simp)).cell 2 (by omega)
    have k3 := (live_get hSw Ba a (by simp)).cell 3 (by omega)
    go_simp
    try with_reducible rfl
  try simp only [Act.put, List.setIfInBounds_toArray, List.set_cons_zero, List.set_cons_succ]
  refine wpAnyH_ready (rs := [14]) (by kernel_rfl) (by simp) ?_
  refine AllReadyH.cons (o := { dst := some 79, op := Go.Op.call { callee := Go.Callee.value (Go.Operand.func 25), args := #[Go.Operand.tmp 78], argTypes := #[24] }, type := 3, pos := "law.go:135", after := #[{ on := 13, ground := Go.Ground.data }, { on := 12, ground := Go.Ground.chain }, { on := 12, ground := Go.Ground.guard }], guard := some (12, true) }) rfl (fun K hK => ?_) AllReadyH.nil
  go_simp
  refine (sign_c ha Xhsg.out _).mono ?_
  rintro e W17 ⟨rfl, hBl⟩
  refine hK.out _ _ ?_ (fun hHeld2 => ?_)
  · exact live_below hHeld hBl
  clear hK K hHeld
  have hHeld := hHeld2
  clear hHeld2
  try simp only [Act.put, List.setIfInBounds_toArray, List.set_cons_zero, List.set_cons_succ]
  refine wpAnyH_ready (rs := [16]) (by kernel_rfl) (by simp) ?_
  refine AllReadyH.cons (o := { dst := some 81, op := Go.Op.call { callee := Go.Callee.value (Go.Operand.func 21), args := #[Go.Operand.const (Go.Value.int Go.IntKind.i64 0)], argTypes := #[3] }, type := 24, pos := "law.go:135", after := #[{ on := 14, ground := Go.Ground.chain }, { on := 12, ground := Go.Ground.guard }], guard := some (12, true) }) rfl (fun K hK => ?_) AllReadyH.nil
  go_simp
  refine (of_c i1 i2 Xhz.out _).mono ?_
  rintro e W18 ⟨rfl, hBl⟩
  refine hK.out _ _ ?_ (fun hHeld2 => ?_)
  · exact live_below hHeld hBl
  clear hK K hHeld
  have hHeld := hHeld2
  clear hHeld2
  try simp only [Act.put, List.setIfInBounds_toArray, List.set_cons_zero, List.set_cons_succ]
  refine wpAnyH_ready (rs := [17]) (by kernel_rfl) (by simp) ?_
  refine AllReadyH.cons (o := { dst := some 82, op := Go.Op.call { callee := Go.Callee.value (Go.Operand.func 23), args := #[Go.Operand.tmp 80, Go.Operand.tmp 81], argTypes := #[24, 24] }, type := 3, pos := "law.go:135", after := #[{ on := 15, ground := Go.Ground.data }, { on := 16, ground := Go.Ground.data }, { on := 16, ground := Go.Ground.chain }, { on := 12, ground := Go.Ground.guard }], guard := some (12, true) }) rfl (fun K hK => ?_) AllReadyH.nil
  go_simp
  refine (cmp_c ha vz Xhcz.out _).mono ?_
  rintro e W19 ⟨rfl, hBl⟩
  refine hK.out _ _ ?_ (fun hHeld2 => ?_)
  · exact live_below hHeld hBl
  clear hK K hHeld
  have hHeld := hHeld2
  clear hHeld2
  try simp only [Act.put, List.setIfInBounds_toArray, List.set_cons_zero, List.set_cons_succ]
  refine wpAnyH_take (i := 18) (oi := { dst := some 83, op := Go.Op.binOp Go.BinOp.eql 3 (Go.Operand.tmp 79) (Go.Operand.tmp 82) 3, type := 4, pos := "law.go:135", after := #[{ on := 14, ground := Go.Ground.data }, { on := 17, ground := Go.Ground.data }, { on := 12, ground := Go.Ground.guard }], guard := some (12, true) }) (v := ?_) rfl (by kernel_rfl) (by kernel_rfl) (by kernel_rfl) (fun _ _ _ h => h) (Or.inl ⟨by rfl, ?_⟩) (by assumption) ?_
  rotate_left
  · intro w hSw
    go_simp
    try with_reducible rfl
  try simp only [Act.put, List.setIfInBounds_toArray, List.set_cons_zero, List.set_cons_succ]
  refine wpAnyH_take (i := 19) (oi := { dst := some 84, op := Go.Op.pick (Go.Operand.tmp 77) (Go.Operand.tmp 83) (Go.Operand.const (Go.Value.bool false)), type := 4, pos := "law.go:135", after := #[{ on := 12, ground := Go.Ground.data }, { on := 18, ground := Go.Ground.data }], guard := none }) (v := ?_) rfl (by kernel_rfl) (by kernel_rfl) (by kernel_rfl) (fun _ _ _ h => h) (Or.inl ⟨by rfl, ?_⟩) (by assumption) ?_
  rotate_left
  · intro w hSw
    go_simp
    try with_reducible rfl
  try simp only [Act.put, List.setIfInBounds_toArray, List.set_cons_zero, List.set_cons_succ]
  refine wpAnyH_take (i := 20) (oi := { dst := some 85, op := Go.Op.move (Go.Operand.tmp 84), type := 4, pos := "law.go:135", after := #[{ on := 19, ground := Go.Ground.data }, { on := 17, ground := Go.Ground.chain }], guard := none }) (v := ?_) rfl (by kernel_rfl) (by kernel_rfl) (by kernel_rfl) (fun _ _ _ h => h) (Or.inl ⟨by rfl, ?_⟩) (by assumption) ?_
  rotate_left
  · intro w hSw
    go_simp
    try with_reducible rfl
  try simp only [Act.put, List.setIfInBounds_toArray, List.set_cons_zero, List.set_cons_succ]
  refine wpAnyH_ready (rs := [21]) (by kernel_rfl) (by simp) ?_
  refine AllReadyH.cons (o := { dst := some 86, op := Go.Op.call { callee := Go.Callee.value (Go.Operand.func 8), args := #[], argTypes := #[] }, type := 4, pos := "law.go:135", after := #[{ on := 20, ground := Go.Ground.chain }, { on := 20, ground := Go.Ground.guard }], guard := some (20, true) }) rfl (fun K hK => ?_) AllReadyH.nil
  go_simp
  refine (wakes_x _).mono ?_
  rintro e W20 ⟨rfl, hBl⟩
  refine hK.out _ _ ?_ (fun hHeld2 => ?_)
  · exact live_below hHeld hBl
  clear hK K hHeld
  have hHeld := hHeld2
  clear hHeld2
  try simp only [Act.put, List.setIfInBounds_toArray, List.set_cons_zero, List.set_cons_succ]
  refine wpAnyH_take (i := 22) (oi := { dst := some 87, op := Go.Op.pick (Go.Operand.tmp 85) (Go.Operand.tmp 86) (Go.Operand.const (Go.Value.bool false)), type := 4, pos := "law.go:135", after := #[{ on := 20, ground := Go.Ground.data }, { on := 21, ground := Go.Ground.data }], guard := none }) (v := ?_) rfl (by kernel_rfl) (by kernel_rfl) (by kernel_rfl) (fun _ _ _ h => h) (Or.inl ⟨by rfl, ?_⟩) (by assumption) ?_
  rotate_left
  · intro w hSw
    go_simp
    try with_reducible rfl
  try simp only [Act.put, List.setIfInBounds_toArray, List.set_cons_zero, List.set_cons_succ]
  refine wpAnyH_take (i := 23) (oi := { dst := some 6, op := Go.Op.assign (Go.Operand.tmp 87), type := 4, pos := "law.go:135", after := #[{ on := 22, ground := Go.Ground.data }, { on := 21, ground := Go.Ground.chain }, { on := 0, ground := Go.Ground.phase }, { on := 1, ground := Go.Ground.phase }, { on := 2, ground := Go.Ground.phase }, { on := 3, ground := Go.Ground.phase }, { on := 4, ground := Go.Ground.phase }, { on := 5, ground := Go.Ground.phase }, { on := 6, ground := Go.Ground.phase }, { on := 7, ground := Go.Ground.phase }, { on := 8, ground := Go.Ground.phase }, { on := 9, ground := Go.Ground.phase }, { on := 10, ground := Go.Ground.phase }, { on := 11, ground := Go.Ground.phase }, { on := 12, ground := Go.Ground.phase }, { on := 13, ground := Go.Ground.phase }, { on := 14, ground := Go.Ground.phase }, { on := 15, ground := Go.Ground.phase }, { on := 16, ground := Go.Ground.phase }, { on := 17, ground := Go.Ground.phase }, { on := 18, ground := Go.Ground.phase }, { on := 19, ground := Go.Ground.phase }, { on := 20, ground := Go.Ground.phase }, { on := 21, ground := Go.Ground.phase }, { on := 22, ground := Go.Ground.phase }], guard := none }) (v := ?_) rfl (by kernel_rfl) (by kernel_rfl) (by kernel_rfl) (fun _ _ _ h => h) (Or.inl ⟨by rfl, ?_⟩) (by assumption) ?_
  rotate_left
  · intro w hSw
    go_simp
    try with_reducible rfl
  try simp only [Act.put, List.setIfInBounds_toArray, List.set_cons_zero, List.set_cons_succ]
  refine wpAnyH_done (by kernel_rfl) ?_ _
  have hL := hHeld
  clear hHeld
  go_wp2
  go_ret
  exact ⟨rfl, hL.2⟩

set_option maxRecDepth 100000 in
set_option maxHeartbeats 4000000 in
theorem or_02 (a b c x y z : Nat → Nat) (ze o2 : Bool) (n n2 n3 sg : Int) (ha : Wds a) (hb : Wds b) (hc : Wds c) (vx : Wds x) (vy : Wds y) (vz : Wds z)
    (hn : cmpR a b = n) (hm : cmpR b a = -n) (hn2 : cmpR b c = n2) (hn3 : cmpR a c = n3) (hx : negR a = x) (hy : negR b = y) (hz : ofR 0 = z) (hsg : signI a = sg) (hcz : cmpR a z = sg) (he : eqB a b = ze)
    (b1 : -1 ≤ n) (b2 : n ≤ 1) (hze : (n == 0) = ze) (hl1 : decide (n < -1) = false) (hl2 : decide (1 < n) = false)
    (hg1 : decide (n ≤ 0) = false) (ho1 : negO a = false) (ho2 : negO b = false) (hcx : cmpR x y = -n) (w : World) :
    Calls Try.prog 6 #[.agg #[.int .u64 (a 0), .int .u64 (a 1), .int .u64 (a 2), .int .u64 (a 3)], .agg #[.int .u64 (b 0), .int .u64 (b 1), .int .u64 (b 2), .int .u64 (b 3)], .agg #[.int .u64 (c 0), .int .u64 (c 1), .int .u64 (c 2), .int .u64 (c 3)]] w fun e w' => e = .returned (.bool true) ∧ Below w.heap.size w w' := by
  have E := fun w => eq_c he w
  have i1 : (-9223372036854775808 : Int) ≤ 0 := by omega
  have i2 : (0 : Int) ≤ 9223372036854775807 := by omega
  have hwn : IntKind.i64.wrap (-n) = -n := IntWalk.i64_in _ (by omega)
  have hL := live_alloc (live_alloc (live_alloc (live_nil w) a) b) c
  simp only [World.size_alloc] at hL
  have Xhn := Lib.hid hn
  have Xhm := Lib.hid hm
  have Xhn2 := Lib.hid hn2
  have Xhn3 := Lib.hid hn3
  have Xhx := Lib.hid hx
  have Xhy := Lib.hid hy
  have Xhz := Lib.hid hz
  have Xhsg := Lib.hid hsg
  have Xhcz := Lib.hid hcz
  have Xhe := Lib.hid he
  have Xho1 := Lib.hid ho1
  have Xho2 := Lib.hid ho2
  have Xhcx := Lib.hid hcx
  clear hn hm hn2 hn3 hx hy hz hsg hcz he ho1 ho2 hcx
  go_enter Try.func6, Try.ntmps6
  go_wp2_with fail
  obtain ⟨V0, hV0⟩ : ∃ V, ((w.alloc (.cells #[.int .u64 (a 0), .int .u64 (a 1), .int .u64 (a 2), .int .u64 (a 3)] 24)).alloc (.cells #[.int .u64 (b 0), .int .u64 (b 1), .int .u64 (b 2), .int .u64 (b 3)] 24)).alloc (.cells #[.int .u64 (c 0), .int .u64 (c 1), .int .u64 (c 2), .int .u64 (c 3)] 24) = V := ⟨_, rfl⟩
  rw [hV0] at hL ⊢
  obtain ⟨Bc, hBc⟩ : ∃ B, w.heap.size + 1 + 1 = B := ⟨_, rfl⟩
  rw [hBc] at hL ⊢
  obtain ⟨Bb, hBb⟩ : ∃ B, w.heap.size + 1 = B := ⟨_, rfl⟩
  rw [hBb] at hL ⊢
  obtain ⟨Ba, hBa⟩ : ∃ B, w.heap.size = B := ⟨_, rfl⟩
  rw [hBa] at hL ⊢
  clear hV0 hBc hBb hBa
  refine (cmp_c ha hb Xhn.out _).mono ?_
  rintro e W3 ⟨rfl, hB⟩
  have hL2 := live_below hL hB
  clear hB hL
  have hL := hL2
  clear hL2
  have q4a := (live_get hL Ba a (by simp)).cell 0 (by omega)
  have q4b := (live_get hL Ba a (by simp)).cell 1 (by omega)
  have q4c := (live_get hL Ba a (by simp)).cell 2 (by omega)
  have q4d := (live_get hL Ba a (by simp)).cell 3 (by omega)
  have q5a := (live_get hL Bb b (by simp)).cell 0 (by omega)
  have q5b := (live_get hL Bb b (by simp)).cell 1 (by omega)
  have q5c := (live_get hL Bb b (by simp)).cell 2 (by omega)
  have q5d := (live_get hL Bb b (by simp)).cell 3 (by omega)
  go_wp2_with fail
  clear q4a q4b q4c q4d q5a q5b q5c q5d
  refine (cmp_c hb ha Xhm.out _).mono ?_
  rintro e W6 ⟨rfl, hB⟩
  have hL2 := live_below hL hB
  clear hB hL
  have hL := hL2
  clear hL2
  have q7a := (live_get hL Ba a (by simp)).cell 0 (by omega)
  have q7b := (live_get hL Ba a (by simp)).cell 1 (by omega)
  have q7c := (live_get hL Ba a (by simp)).cell 2 (by omega)
  have q7d := (live_get hL Ba a (by simp)).cell 3 (by omega)
  have q8a := (live_get hL Bb b (by simp)).cell 0 (by omega)
  have q8b := (live_get hL Bb b (by simp)).cell 1 (by omega)
  have q8c := (live_get hL Bb b (by simp)).cell 2 (by omega)
  have q8d := (live_get hL Bb b (by simp)).cell 3 (by omega)
  go_wp2_with fail
  clear q7a q7b q7c q7d q8a q8b q8c q8d
  refine (cmp_c ha hb Xhn.out _).mono ?_
  rintro e W9 ⟨rfl, hB⟩
  have hL2 := live_below hL hB
  clear hB hL
  have hL := hL2
  clear hL2
  have q10a := (live_get hL Ba a (by simp)).cell 0 (by omega)
  have q10b := (live_get hL Ba a (by simp)).cell 1 (by omega)
  have q10c := (live_get hL Ba a (by simp)).cell 2 (by omega)
  have q10d := (live_get hL Ba a (by simp)).cell 3 (by omega)
  go_wp2_with fail
  clear q10a q10b q10c q10d
  refine (neg_c ha Xhx.out Xho1.out _).mono ?_
  rintro e W11 ⟨rfl, hB⟩
  have hL2 := live_alloc (live_below hL hB) x
  clear hB hL
  have hL := hL2
  clear hL2
  have q12a := (live_get hL Bb b (by simp)).cell 0 (by omega)
  have q12b := (live_get hL Bb b (by simp)).cell 1 (by omega)
  have q12c := (live_get hL Bb b (by simp)).cell 2 (by omega)
  have q12d := (live_get hL Bb b (by simp)).cell 3 (by omega)
  go_wp2_with fail
  clear q12a q12b q12c q12d
  obtain ⟨B13, hBx⟩ : ∃ B, W11.heap.size = B := ⟨_, rfl⟩
  obtain ⟨V13, hVx⟩ : ∃ V, W11.alloc (.cells #[.int .u64 (x 0), .int .u64 (x 1), .int .u64 (x 2), .int .u64 (x 3)] 24) = V := ⟨_, rfl⟩
  rw [hBx, hVx] at hL
  rw [hBx, hVx]
  clear hBx hVx
  refine (neg_c hb Xhy.out Xho2.out _).mono ?_
  rintro e W14 ⟨rfl, hB⟩
  have hL2 := live_alloc (live_below hL hB) y
  clear hB hL
  have hL := hL2
  clear hL2
  go_wp2_with fail
  obtain ⟨B15, hBx⟩ : ∃ B, W14.heap.size = B := ⟨_, rfl⟩
  obtain ⟨V15, hVx⟩ : ∃ V, W14.alloc (.cells #[.int .u64 (y 0), .int .u64 (y 1), .int .u64 (y 2), .int .u64 (y 3)] 24) = V := ⟨_, rfl⟩
  rw [hBx, hVx] at hL
  rw [hBx, hVx]
  clear hBx hVx
  refine wp_region_held_drew (S := fun W' => Live w [(B15, y), (B13, x), (Bc, c), (Bb, b), (Ba, a)] W') (by kernel_rfl) (live_drew hL) (fun hHeld => ?_)
  obtain ⟨D16, hW0⟩ : ∃ W0, V15.drew = W0 := ⟨_, rfl⟩
  rw [hW0] at hHeld ⊢
  clear hW0 hL
  refine wpAnyH_take (i := 0) (oi := { dst := some 65, op := Go.Op.move (Go.Operand.tmp 9), type := 4, pos := "law.go:135", after := #[], guard := none }) (v := ?_) rfl (by kernel_rfl) (by kernel_rfl) (by kernel_rfl) (fun _ _ _ h => h) (Or.inl ⟨by rfl, ?_⟩) (by assumption) ?_
  rotate_left
  · intro w hSw
    go_simp
    try with_reducible rfl
  try simp only [Act.put, List.setIfInBounds_toArray, List.set_cons_zero, List.set_cons_succ]
  refine wpAnyH_take (i := 1) (oi := { dst := some 66, op := Go.Op.move (Go.Operand.tmp 65), type := 4, pos := "law.go:135", after := #[{ on := 0, ground := Go.Ground.data }], guard := none }) (v := ?_) rfl (by kernel_rfl) (by kernel_rfl) (by kernel_rfl) (fun _ _ _ h => h) (Or.inl ⟨by rfl, ?_⟩) (by assumption) ?_
  rotate_left
  · intro w hSw
    go_simp
    try with_reducible rfl
  try simp only [Act.put, List.setIfInBounds_toArray, List.set_cons_zero, List.set_cons_succ]
  refine wpAnyH_take (i := 2) (oi := { dst := some 67, op := Go.Op.move (Go.Operand.tmp 11), type := 4, pos := "law.go:135", after := #[{ on := 1, ground := Go.Ground.guard }], guard := some (1, false) }) (v := ?_) rfl (by kernel_rfl) (by kernel_rfl) (by kernel_rfl) (fun _ _ _ h => h) (Or.inl ⟨by rfl, ?_⟩) (by assumption) ?_
  rotate_left
  · intro w hSw
    go_simp
    try with_reducible rfl
  try simp only [Act.put, List.setIfInBounds_toArray, List.set_cons_zero, List.set_cons_succ]
  refine wpAnyH_take (i := 3) (oi := { dst := some 68, op := Go.Op.pick (Go.Operand.tmp 66) (Go.Operand.const (Go.Value.bool true)) (Go.Operand.tmp 67), type := 4, pos := "law.go:135", after := #[{ on := 1, ground := Go.Ground.data }, { on := 2, ground := Go.Ground.data }], guard := none }) (v := ?_) rfl (by kernel_rfl) (by kernel_rfl) (by kernel_rfl) (fun _ _ _ h => h) (Or.inl ⟨by rfl, ?_⟩) (by assumption) ?_
  rotate_left
  · intro w hSw
    go_simp
    try with_reducible rfl
  try simp only [Act.put, List.setIfInBounds_toArray, List.set_cons_zero, List.set_cons_succ]
  refine wpAnyH_take (i := 4) (oi := { dst := some 69, op := Go.Op.move (Go.Operand.tmp 68), type := 4, pos := "law.go:135", after := #[{ on := 3, ground := Go.Ground.data }, { on := 1, ground := Go.Ground.chain }], guard := none }) (v := ?_) rfl (by kernel_rfl) (by kernel_rfl) (by kernel_rfl) (fun _ _ _ h => h) (Or.inl ⟨by rfl, ?_⟩) (by assumption) ?_
  rotate_left
  · intro w hSw
    go_simp
    try with_reducible rfl
  try simp only [Act.put, List.setIfInBounds_toArray, List.set_cons_zero, List.set_cons_succ]
  refine wpAnyH_take (i := 5) (oi := { dst := some 70, op := Go.Op.load 24 (Go.Operand.tmp 8), type := 24, pos := "law.go:135", after := #[{ on := 4, ground := Go.Ground.guard }], guard := some (4, false) }) (v := ?_) rfl (by kernel_rfl) (by kernel_rfl) (by kernel_rfl) (fun _ _ _ h => h) (Or.inl ⟨by rfl, ?_⟩) (by assumption) ?_
  rotate_left
  · intro w hSw
    have k0 := (live_get hSw B13 x (by simp)).cell 0 (by omega)
    have k1 := (live_get hSw B13 x (by simp)).cell 1 (by omega)
    have k2 := (live_get hSw B13 x (by simp)).cell 2 (by omega)
    have k3 := (live_get hSw B13 x (by simp)).cell 3 (by omega)
    go_simp
    try with_reducible rfl
  try simp only [Act.put, List.setIfInBounds_toArray, List.set_cons_zero, List.set_cons_succ]
  refine wpAnyH_take (i := 6) (oi := { dst := some 71, op := Go.Op.load 24 (Go.Operand.tmp 10), type := 24, pos := "law.go:135", after := #[{ on := 4, ground := Go.Ground.guard }], guard := some (4, false) }) (v := ?_) rfl (by kernel_rfl) (by kernel_rfl) (by kernel_rfl) (fun _ _ _ h => h) (Or.inl ⟨by rfl, ?_⟩) (by assumption) ?_
  rotate_left
  · intro w hSw
    have k0 := (live_get hSw B15 y (by simp)).cell 0 (by omega)
    have k1 := (live_get hSw B15 y (by simp)).cell 1 (by omega)
    have k2 := (live_get hSw B15 y (by simp)).cell 2 (by omega)
    have k3 := (live_get hSw B15 y (by simp)).cell 3 (by omega)
    go_simp
    try with_reducible rfl
  try simp only [Act.put, List.setIfInBounds_toArray, List.set_cons_zero, List.set_cons_succ]
  refine wpAnyH_take (i := 8) (oi := { dst := some 73, op := Go.Op.move (Go.Operand.tmp 7), type := 3, pos := "law.go:135", after := #[{ on := 4, ground := Go.Ground.guard }], guard := some (4, false) }) (v := ?_) rfl (by kernel_rfl) (by kernel_rfl) (by kernel_rfl) (fun _ _ _ h => h) (Or.inl ⟨by rfl, ?_⟩) (by assumption) ?_
  rotate_left
  · intro w hSw
    go_simp
    try with_reducible rfl
  try simp only [Act.put, List.setIfInBounds_toArray, List.set_cons_zero, List.set_cons_succ]
  refine wpAnyH_take (i := 9) (oi := { dst := some 74, op := Go.Op.unOp Go.UnOp.neg 3 (Go.Operand.tmp 73), type := 3, pos := "law.go:135", after := #[{ on := 8, ground := Go.Ground.data }, { on := 4, ground := Go.Ground.guard }], guard := some (4, false) }) (v := ?_) rfl (by kernel_rfl) (by kernel_rfl) (by kernel_rfl) (fun _ _ _ h => h) (Or.inl ⟨by rfl, ?_⟩) (by assumption) ?_
  rotate_left
  · intro w hSw
    go_simp
    try with_reducible rfl
  try simp only [Act.put, List.setIfInBounds_toArray, List.set_cons_zero, List.set_cons_succ]
  refine wpAnyH_ready (rs := [7]) (by kernel_rfl) (by simp) ?_
  refine AllReadyH.cons (o := { dst := some 72, op := Go.Op.call { callee := Go.Callee.value (Go.Operand.func 23), args := #[Go.Operand.tmp 70, Go.Operand.tmp 71], argTypes := #[24, 24] }, type := 3, pos := "law.go:135", after := #[{ on := 5, ground := Go.Ground.data }, { on := 6, ground := Go.Ground.data }, { on := 4, ground := Go.Ground.chain }, { on := 4, ground := Go.Ground.guard }], guard := some (4, false) }) rfl (fun K hK => ?_) AllReadyH.nil
  go_simp
  refine (cmp_c vx vy Xhcx.out _).mono ?_
  rintro e W17 ⟨rfl, hBl⟩
  refine hK.out _ _ ?_ (fun hHeld2 => ?_)
  · exact live_below hHeld hBl
  clear hK K hHeld
  have hHeld := hHeld2
  clear hHeld2
  try simp only [Act.put, List.setIfInBounds_toArray, List.set_cons_zero, List.set_cons_succ]
  refine wpAnyH_take (i := 10) (oi := { dst := some 75, op := Go.Op.binOp Go.BinOp.eql 3 (Go.Operand.tmp 72) (Go.Operand.tmp 74) 3, type := 4, pos := "law.go:135", after := #[{ on := 7, ground := Go.Ground.data }, { on := 9, ground := Go.Ground.data }, { on := 4, ground := Go.Ground.guard }], guard := some (4, false) }) (v := ?_) rfl (by kernel_rfl) (by kernel_rfl) (by kernel_rfl) (fun _ _ _ h => h) (Or.inl ⟨by rfl, ?_⟩) (by assumption) ?_
  rotate_left
  · intro w hSw
    go_simp
    try with_reducible rfl
  try simp only [Act.put, List.setIfInBounds_toArray, List.set_cons_zero, List.set_cons_succ]
  refine wpAnyH_take (i := 11) (oi := { dst := some 76, op := Go.Op.pick (Go.Operand.tmp 69) (Go.Operand.const (Go.Value.bool true)) (Go.Operand.tmp 75), type := 4, pos := "law.go:135", after := #[{ on := 4, ground := Go.Ground.data }, { on := 10, ground := Go.Ground.data }], guard := none }) (v := ?_) rfl (by kernel_rfl) (by kernel_rfl) (by kernel_rfl) (fun _ _ _ h => h) (Or.inl ⟨by rfl, ?_⟩) (by assumption) ?_
  rotate_left
  · intro w hSw
    go_simp
    try with_reducible rfl
  try simp only [Act.put, List.setIfInBounds_toArray, List.set_cons_zero, List.set_cons_succ]
  refine wpAnyH_take (i := 12) (oi := { dst := some 77, op := Go.Op.move (Go.Operand.tmp 76), type := 4, pos := "law.go:135", after := #[{ on := 11, ground := Go.Ground.data }, { on := 7, ground := Go.Ground.chain }], guard := none }) (v := ?_) rfl (by kernel_rfl) (by kernel_rfl) (by kernel_rfl) (fun _ _ _ h => h) (Or.inl ⟨by rfl, ?_⟩) (by assumption) ?_
  rotate_left
  · intro w hSw
    go_simp
    try with_reducible rfl
  try simp only [Act.put, List.setIfInBounds_toArray, List.set_cons_zero, List.set_cons_succ]
  refine wpAnyH_take (i := 13) (oi := { dst := some 78, op := Go.Op.load 24 (Go.Operand.tmp 3), type := 24, pos := "law.go:135", after := #[{ on := 12, ground := Go.Ground.guard }], guard := some (12, true) }) (v := ?_) rfl (by kernel_rfl) (by kernel_rfl) (by kernel_rfl) (fun _ _ _ h => h) (Or.inl ⟨by rfl, ?_⟩) (by assumption) ?_
  rotate_left
  · intro w hSw
    have k0 := (live_get hSw Ba a (by simp)).cell 0 (by omega)
    have k1 := (live_get hSw Ba a (by simp)).cell 1 (by omega)
    have k2 := (live_get hSw Ba a (by simp)).cell 2 (by omega)
    have k3 := (live_get hSw Ba a (by simp)).cell 3 (by omega)
    go_simp
    try with_reducible rfl
  try simp only [Act.put, List.setIfInBounds_toArray, List.set_cons_zero, List.set_cons_succ]
  refine wpAnyH_take (i := 15) (oi := { dst := some 80, op := Go.Op.load 24 (Go.Operand.tmp 3), type := 24, pos := "law.go:135", after := #[{ on := 12, ground := Go.Ground.guard }], guard := some (12, true) }) (v := ?_) rfl (by kernel_rfl) (by kernel_rfl) (by kernel_rfl) (fun _ _ _ h => h) (Or.inl ⟨by rfl, ?_⟩) (by assumption) ?_
  rotate_left
  · intro w hSw
    have k0 := (live_get hSw Ba a (by simp)).cell 0 (by omega)
    have k1 := (live_get hSw Ba a (by simp)).cell 1 (by omega)
    have k2 := (live_get hSw Ba a (by simp)).cell 2 (by omega)
    have k3 := (live_get hSw Ba a (by simp)).cell 3 (by omega)
    go_simp
    try with_reducible rfl
  try simp only [Act.put, List.setIfInBounds_toArray, List.set_cons_zero, List.set_cons_succ]
  refine wpAnyH_ready (rs := [14]) (by kernel_rfl) (by simp) ?_
  refine AllReadyH.cons (o := { dst := some 79, op := Go.Op.call { callee := Go.Callee.value (Go.Operand.func 25), args := #[Go.Operand.tmp 78], argTypes := #[24] }, type := 3, pos := "law.go:135", after := #[{ on := 13, ground := Go.Ground.data }, { on := 12, ground := Go.Ground.chain }, { on := 12, ground := Go.Ground.guard }], guard := some (12, true) }) rfl (fun K hK => ?_) AllReadyH.nil
  go_simp
  refine (sign_c ha Xhsg.out _).mono ?_
  rintro e W18 ⟨rfl, hBl⟩
  refine hK.out _ _ ?_ (fun hHeld2 => ?_)
  · exact live_below hHeld hBl
  clear hK K hHeld
  have hHeld := hHeld2
  clear hHeld2
  try simp only [Act.put, List.setIfInBounds_toArray, List.set_cons_zero, List.set_cons_succ]
  refine wpAnyH_ready (rs := [16]) (by kernel_rfl) (by simp) ?_
  refine AllReadyH.cons (o := { dst := some 81, op := Go.Op.call { callee := Go.Callee.value (Go.Operand.func 21), args := #[Go.Operand.const (Go.Value.int Go.IntKind.i64 0)], argTypes := #[3] }, type := 24, pos := "law.go:135", after := #[{ on := 14, ground := Go.Ground.chain }, { on := 12, ground := Go.Ground.guard }], guard := some (12, true) }) rfl (fun K hK => ?_) AllReadyH.nil
  go_simp
  refine (of_c i1 i2 Xhz.out _).mono ?_
  rintro e W19 ⟨rfl, hBl⟩
  refine hK.out _ _ ?_ (fun hHeld2 => ?_)
  · exact live_below hHeld hBl
  clear hK K hHeld
  have hHeld := hHeld2
  clear hHeld2
  try simp only [Act.put, List.setIfInBounds_toArray, List.set_cons_zero, List.set_cons_succ]
  refine wpAnyH_ready (rs := [17]) (by kernel_rfl) (by simp) ?_
  refine AllReadyH.cons (o := { dst := some 82, op := Go.Op.call { callee := Go.Callee.value (Go.Operand.func 23), args := #[Go.Operand.tmp 80, Go.Operand.tmp 81], argTypes := #[24, 24] }, type := 3, pos := "law.go:135", after := #[{ on := 15, ground := Go.Ground.data }, { on := 16, ground := Go.Ground.data }, { on := 16, ground := Go.Ground.chain }, { on := 12, ground := Go.Ground.guard }], guard := some (12, true) }) rfl (fun K hK => ?_) AllReadyH.nil
  go_simp
  refine (cmp_c ha vz Xhcz.out _).mono ?_
  rintro e W20 ⟨rfl, hBl⟩
  refine hK.out _ _ ?_ (fun hHeld2 => ?_)
  · exact live_below hHeld hBl
  clear hK K hHeld
  have hHeld := hHeld2
  clear hHeld2
  try simp only [Act.put, List.setIfInBounds_toArray, List.set_cons_zero, List.set_cons_succ]
  refine wpAnyH_take (i := 18) (oi := { dst := some 83, op := Go.Op.binOp Go.BinOp.eql 3 (Go.Operand.tmp 79) (Go.Operand.tmp 82) 3, type := 4, pos := "law.go:135", after := #[{ on := 14, ground := Go.Ground.data }, { on := 17, ground := Go.Ground.data }, { on := 12, ground := Go.Ground.guard }], guard := some (12, true) }) (v := ?_) rfl (by kernel_rfl) (by kernel_rfl) (by kernel_rfl) (fun _ _ _ h => h) (Or.inl ⟨by rfl, ?_⟩) (by assumption) ?_
  rotate_left
  · intro w hSw
    go_simp
    try with_reducible rfl
  try simp only [Act.put, List.setIfInBounds_toArray, List.set_cons_zero, List.set_cons_succ]
  refine wpAnyH_take (i := 19) (oi := { dst := some 84, op := Go.Op.pick (Go.Operand.tmp 77) (Go.Operand.tmp 83) (Go.Operand.const (Go.Value.bool false)), type := 4, pos := "law.go:135", after := #[{ on := 12, ground := Go.Ground.data }, { on := 18, ground := Go.Ground.data }], guard := none }) (v := ?_) rfl (by kernel_rfl) (by kernel_rfl) (by kernel_rfl) (fun _ _ _ h => h) (Or.inl ⟨by rfl, ?_⟩) (by assumption) ?_
  rotate_left
  · intro w hSw
    go_simp
    try with_reducible rfl
  try simp only [Act.put, List.setIfInBounds_toArray, List.set_cons_zero, List.set_cons_succ]
  refine wpAnyH_take (i := 20) (oi := { dst := some 85, op := Go.Op.move (Go.Operand.tmp 84), type := 4, pos := "law.go:135", after := #[{ on := 19, ground := Go.Ground.data }, { on := 17, ground := Go.Ground.chain }], guard := none }) (v := ?_) rfl (by kernel_rfl) (by kernel_rfl) (by kernel_rfl) (fun _ _ _ h => h) (Or.inl ⟨by rfl, ?_⟩) (by assumption) ?_
  rotate_left
  · intro w hSw
    go_simp
    try with_reducible rfl
  try simp only [Act.put, List.setIfInBounds_toArray, List.set_cons_zero, List.set_cons_succ]
  refine wpAnyH_ready (rs := [21]) (by kernel_rfl) (by simp) ?_
  refine AllReadyH.cons (o := { dst := some 86, op := Go.Op.call { callee := Go.Callee.value (Go.Operand.func 8), args := #[], argTypes := #[] }, type := 4, pos := "law.go:135", after := #[{ on := 20, ground := Go.Ground.chain }, { on := 20, ground := Go.Ground.guard }], guard := some (20, true) }) rfl (fun K hK => ?_) AllReadyH.nil
  go_simp
  refine (wakes_x _).mono ?_
  rintro e W21 ⟨rfl, hBl⟩
  refine hK.out _ _ ?_ (fun hHeld2 => ?_)
  · exact live_below hHeld hBl
  clear hK K hHeld
  have hHeld := hHeld2
  clear hHeld2
  try simp only [Act.put, List.setIfInBounds_toArray, List.set_cons_zero, List.set_cons_succ]
  refine wpAnyH_take (i := 22) (oi := { dst := some 87, op := Go.Op.pick (Go.Operand.tmp 85) (Go.Operand.tmp 86) (Go.Operand.const (Go.Value.bool false)), type := 4, pos := "law.go:135", after := #[{ on := 20, ground := Go.Ground.data }, { on := 21, ground := Go.Ground.data }], guard := none }) (v := ?_) rfl (by kernel_rfl) (by kernel_rfl) (by kernel_rfl) (fun _ _ _ h => h) (Or.inl ⟨by rfl, ?_⟩) (by assumption) ?_
  rotate_left
  · intro w hSw
    go_simp
    try with_reducible rfl
  try simp only [Act.put, List.setIfInBounds_toArray, List.set_cons_zero, List.set_cons_succ]
  refine wpAnyH_take (i := 23) (oi := { dst := some 6, op := Go.Op.assign (Go.Operand.tmp 87), type := 4, pos := "law.go:135", after := #[{ on := 22, ground := Go.Ground.data }, { on := 21, ground := Go.Ground.chain }, { on := 0, ground := Go.Ground.phase }, { on := 1, ground := Go.Ground.phase }, { on := 2, ground := Go.Ground.phase }, { on := 3, ground := Go.Ground.phase }, { on := 4, ground := Go.Ground.phase }, { on := 5, ground := Go.Ground.phase }, { on := 6, ground := Go.Ground.phase }, { on := 7, ground := Go.Ground.phase }, { on := 8, ground := Go.Ground.phase }, { on := 9, ground := Go.Ground.phase }, { on := 10, ground := Go.Ground.phase }, { on := 11, ground := Go.Ground.phase }, { on := 12, ground := Go.Ground.phase }, { on := 13, ground := Go.Ground.phase }, { on := 14, ground := Go.Ground.phase }, { on := 15, ground := Go.Ground.phase }, { on := 16, ground := Go.Ground.phase }, { on := 17, ground := Go.Ground.phase }, { on := 18, ground := Go.Ground.phase }, { on := 19, ground := Go.Ground.phase }, { on := 20, ground := Go.Ground.phase }, { on := 21, ground := Go.Ground.phase }, { on := 22, ground := Go.Ground.phase }], guard := none }) (v := ?_) rfl (by kernel_rfl) (by kernel_rfl) (by kernel_rfl) (fun _ _ _ h => h) (Or.inl ⟨by rfl, ?_⟩) (by assumption) ?_
  rotate_left
  · intro w hSw
    go_simp
    try with_reducible rfl
  try simp only [Act.put, List.setIfInBounds_toArray, List.set_cons_zero, List.set_cons_succ]
  refine wpAnyH_done (by kernel_rfl) ?_ _
  have hL := hHeld
  clear hHeld
  go_wp2
  go_ret
  exact ⟨rfl, hL.2⟩

set_option maxRecDepth 100000 in
set_option maxHeartbeats 4000000 in
theorem or_10 (a b c x y z : Nat → Nat) (ze o2 : Bool) (n n2 n3 sg : Int) (ha : Wds a) (hb : Wds b) (hc : Wds c) (vx : Wds x) (vy : Wds y) (vz : Wds z)
    (hn : cmpR a b = n) (hm : cmpR b a = -n) (hn2 : cmpR b c = n2) (hn3 : cmpR a c = n3) (hx : negR a = x) (hy : negR b = y) (hz : ofR 0 = z) (hsg : signI a = sg) (hcz : cmpR a z = sg) (he : eqB a b = ze)
    (b1 : -1 ≤ n) (b2 : n ≤ 1) (hze : (n == 0) = ze) (hl1 : decide (n < -1) = false) (hl2 : decide (1 < n) = false)
    (hg1 : decide (n ≤ 0) = true) (hg2 : decide (n2 ≤ 0) = false) (ho1 : negO a = true) (ho2 : negO b = o2) (w : World) :
    Calls Try.prog 6 #[.agg #[.int .u64 (a 0), .int .u64 (a 1), .int .u64 (a 2), .int .u64 (a 3)], .agg #[.int .u64 (b 0), .int .u64 (b 1), .int .u64 (b 2), .int .u64 (b 3)], .agg #[.int .u64 (c 0), .int .u64 (c 1), .int .u64 (c 2), .int .u64 (c 3)]] w fun e w' => e = .returned (.bool true) ∧ Below w.heap.size w w' := by
  have E := fun w => eq_c he w
  have i1 : (-9223372036854775808 : Int) ≤ 0 := by omega
  have i2 : (0 : Int) ≤ 9223372036854775807 := by omega
  have hwn : IntKind.i64.wrap (-n) = -n := IntWalk.i64_in _ (by omega)
  have hL := live_alloc (live_alloc (live_alloc (live_nil w) a) b) c
  simp only [World.size_alloc] at hL
  have Xhn := Lib.hid hn
  have Xhm := Lib.hid hm
  have Xhn2 := Lib.hid hn2
  have Xhn3 := Lib.hid hn3
  have Xhx := Lib.hid hx
  have Xhy := Lib.hid hy
  have Xhz := Lib.hid hz
  have Xhsg := Lib.hid hsg
  have Xhcz := Lib.hid hcz
  have Xhe := Lib.hid he
  have Xho1 := Lib.hid ho1
  have Xho2 := Lib.hid ho2
  clear hn hm hn2 hn3 hx hy hz hsg hcz he ho1 ho2
  go_enter Try.func6, Try.ntmps6
  go_wp2_with fail
  obtain ⟨V0, hV0⟩ : ∃ V, ((w.alloc (.cells #[.int .u64 (a 0), .int .u64 (a 1), .int .u64 (a 2), .int .u64 (a 3)] 24)).alloc (.cells #[.int .u64 (b 0), .int .u64 (b 1), .int .u64 (b 2), .int .u64 (b 3)] 24)).alloc (.cells #[.int .u64 (c 0), .int .u64 (c 1), .int .u64 (c 2), .int .u64 (c 3)] 24) = V := ⟨_, rfl⟩
  rw [hV0] at hL ⊢
  obtain ⟨Bc, hBc⟩ : ∃ B, w.heap.size + 1 + 1 = B := ⟨_, rfl⟩
  rw [hBc] at hL ⊢
  obtain ⟨Bb, hBb⟩ : ∃ B, w.heap.size + 1 = B := ⟨_, rfl⟩
  rw [hBb] at hL ⊢
  obtain ⟨Ba, hBa⟩ : ∃ B, w.heap.size = B := ⟨_, rfl⟩
  rw [hBa] at hL ⊢
  clear hV0 hBc hBb hBa
  refine (cmp_c ha hb Xhn.out _).mono ?_
  rintro e W3 ⟨rfl, hB⟩
  have hL2 := live_below hL hB
  clear hB hL
  have hL := hL2
  clear hL2
  have q4a := (live_get hL Ba a (by simp)).cell 0 (by omega)
  have q4b := (live_get hL Ba a (by simp)).cell 1 (by omega)
  have q4c := (live_get hL Ba a (by simp)).cell 2 (by omega)
  have q4d := (live_get hL Ba a (by simp)).cell 3 (by omega)
  have q5a := (live_get hL Bb b (by simp)).cell 0 (by omega)
  have q5b := (live_get hL Bb b (by simp)).cell 1 (by omega)
  have q5c := (live_get hL Bb b (by simp)).cell 2 (by omega)
  have q5d := (live_get hL Bb b (by simp)).cell 3 (by omega)
  go_wp2_with fail
  clear q4a q4b q4c q4d q5a q5b q5c q5d
  refine (cmp_c hb ha Xhm.out _).mono ?_
  rintro e W6 ⟨rfl, hB⟩
  have hL2 := live_below hL hB
  clear hB hL
  have hL := hL2
  clear hL2
  have q7a := (live_get hL Ba a (by simp)).cell 0 (by omega)
  have q7b := (live_get hL Ba a (by simp)).cell 1 (by omega)
  have q7c := (live_get hL Ba a (by simp)).cell 2 (by omega)
  have q7d := (live_get hL Ba a (by simp)).cell 3 (by omega)
  have q8a := (live_get hL Bb b (by simp)).cell 0 (by omega)
  have q8b := (live_get hL Bb b (by simp)).cell 1 (by omega)
  have q8c := (live_get hL Bb b (by simp)).cell 2 (by omega)
  have q8d := (live_get hL Bb b (by simp)).cell 3 (by omega)
  go_wp2_with fail
  clear q7a q7b q7c q7d q8a q8b q8c q8d
  refine (cmp_c ha hb Xhn.out _).mono ?_
  rintro e W9 ⟨rfl, hB⟩
  have hL2 := live_below hL hB
  clear hB hL
  have hL := hL2
  clear hL2
  have q10a := (live_get hL Bb b (by simp)).cell 0 (by omega)
  have q10b := (live_get hL Bb b (by simp)).cell 1 (by omega)
  have q10c := (live_get hL Bb b (by simp)).cell 2 (by omega)
  have q10d := (live_get hL Bb b (by simp)).cell 3 (by omega)
  have q11a := (live_get hL Bc c (by simp)).cell 0 (by omega)
  have q11b := (live_get hL Bc c (by simp)).cell 1 (by omega)
  have q11c := (live_get hL Bc c (by simp)).cell 2 (by omega)
  have q11d := (live_get hL Bc c (by simp)).cell 3 (by omega)
  go_wp2_with fail
  clear q10a q10b q10c q10d q11a q11b q11c q11d
  refine (cmp_c hb hc Xhn2.out _).mono ?_
  rintro e W12 ⟨rfl, hB⟩
  have hL2 := live_below hL hB
  clear hB hL
  have hL := hL2
  clear hL2
  have q13a := (live_get hL Ba a (by simp)).cell 0 (by omega)
  have q13b := (live_get hL Ba a (by simp)).cell 1 (by omega)
  have q13c := (live_get hL Ba a (by simp)).cell 2 (by omega)
  have q13d := (live_get hL Ba a (by simp)).cell 3 (by omega)
  go_wp2_with fail
  clear q13a q13b q13c q13d
  refine (neg_c ha Xhx.out Xho1.out _).mono ?_
  rintro e W14 ⟨rfl, hB⟩
  have hL2 := live_alloc (live_below hL hB) x
  clear hB hL
  have hL := hL2
  clear hL2
  have q15a := (live_get hL Bb b (by simp)).cell 0 (by omega)
  have q15b := (live_get hL Bb b (by simp)).cell 1 (by omega)
  have q15c := (live_get hL Bb b (by simp)).cell 2 (by omega)
  have q15d := (live_get hL Bb b (by simp)).cell 3 (by omega)
  go_wp2_with fail
  clear q15a q15b q15c q15d
  obtain ⟨B16, hBx⟩ : ∃ B, W14.heap.size = B := ⟨_, rfl⟩
  obtain ⟨V16, hVx⟩ : ∃ V, W14.alloc (.cells #[.int .u64 (x 0), .int .u64 (x 1), .int .u64 (x 2), .int .u64 (x 3)] 24) = V := ⟨_, rfl⟩
  rw [hBx, hVx] at hL
  rw [hBx, hVx]
  clear hBx hVx
  refine (neg_c hb Xhy.out Xho2.out _).mono ?_
  rintro e W17 ⟨rfl, hB⟩
  have hL2 := live_alloc (live_below hL hB) y
  clear hB hL
  have hL := hL2
  clear hL2
  go_wp2_with fail
  obtain ⟨B18, hBx⟩ : ∃ B, W17.heap.size = B := ⟨_, rfl⟩
  obtain ⟨V18, hVx⟩ : ∃ V, W17.alloc (.cells #[.int .u64 (y 0), .int .u64 (y 1), .int .u64 (y 2), .int .u64 (y 3)] 24) = V := ⟨_, rfl⟩
  rw [hBx, hVx] at hL
  rw [hBx, hVx]
  clear hBx hVx
  refine wp_region_held_drew (S := fun W' => Live w [(B18, y), (B16, x), (Bc, c), (Bb, b), (Ba, a)] W') (by kernel_rfl) (live_drew hL) (fun hHeld => ?_)
  obtain ⟨D19, hW0⟩ : ∃ W0, V18.drew = W0 := ⟨_, rfl⟩
  rw [hW0] at hHeld ⊢
  clear hW0 hL
  refine wpAnyH_take (i := 0) (oi := { dst := some 65, op := Go.Op.move (Go.Operand.tmp 9), type := 4, pos := "law.go:135", after := #[], guard := none }) (v := ?_) rfl (by kernel_rfl) (by kernel_rfl) (by kernel_rfl) (fun _ _ _ h => h) (Or.inl ⟨by rfl, ?_⟩) (by assumption) ?_
  rotate_left
  · intro w hSw
    go_simp
    try with_reducible rfl
  try simp only [Act.put, List.setIfInBounds_toArray, List.set_cons_zero, List.set_cons_succ]
  refine wpAnyH_take (i := 1) (oi := { dst := some 66, op := Go.Op.move (Go.Operand.tmp 65), type := 4, pos := "law.go:135", after := #[{ on := 0, ground := Go.Ground.data }], guard := none }) (v := ?_) rfl (by kernel_rfl) (by kernel_rfl) (by kernel_rfl) (fun _ _ _ h => h) (Or.inl ⟨by rfl, ?_⟩) (by assumption) ?_
  rotate_left
  · intro w hSw
    go_simp
    try with_reducible rfl
  try simp only [Act.put, List.setIfInBounds_toArray, List.set_cons_zero, List.set_cons_succ]
  refine wpAnyH_take (i := 2) (oi := { dst := some 67, op := Go.Op.move (Go.Operand.tmp 11), type := 4, pos := "law.go:135", after := #[{ on := 1, ground := Go.Ground.guard }], guard := some (1, false) }) (v := undef) rfl (by kernel_rfl) (by kernel_rfl) (by kernel_rfl) (fun _ _ _ h => h) (Or.inr ⟨by rfl, rfl⟩) (by assumption) ?_
  try simp only [Act.put, List.setIfInBounds_toArray, List.set_cons_zero, List.set_cons_succ]
  refine wpAnyH_take (i := 3) (oi := { dst := some 68, op := Go.Op.pick (Go.Operand.tmp 66) (Go.Operand.const (Go.Value.bool true)) (Go.Operand.tmp 67), type := 4, pos := "law.go:135", after := #[{ on := 1, ground := Go.Ground.data }, { on := 2, ground := Go.Ground.data }], guard := none }) (v := ?_) rfl (by kernel_rfl) (by kernel_rfl) (by kernel_rfl) (fun _ _ _ h => h) (Or.inl ⟨by rfl, ?_⟩) (by assumption) ?_
  rotate_left
  · intro w hSw
    go_simp
    try with_reducible rfl
  try simp only [Act.put, List.setIfInBounds_toArray, List.set_cons_zero, List.set_cons_succ]
  refine wpAnyH_take (i := 4) (oi := { dst := some 69, op := Go.Op.move (Go.Operand.tmp 68), type := 4, pos := "law.go:135", after := #[{ on := 3, ground := Go.Ground.data }, { on := 1, ground := Go.Ground.chain }], guard := none }) (v := ?_) rfl (by kernel_rfl) (by kernel_rfl) (by kernel_rfl) (fun _ _ _ h => h) (Or.inl ⟨by rfl, ?_⟩) (by assumption) ?_
  rotate_left
  · intro w hSw
    go_simp
    try with_reducible rfl
  try simp only [Act.put, List.setIfInBounds_toArray, List.set_cons_zero, List.set_cons_succ]
  refine wpAnyH_take (i := 5) (oi := { dst := some 70, op := Go.Op.load 24 (Go.Operand.tmp 8), type := 24, pos := "law.go:135", after := #[{ on := 4, ground := Go.Ground.guard }], guard := some (4, false) }) (v := undef) rfl (by kernel_rfl) (by kernel_rfl) (by kernel_rfl) (fun _ _ _ h => h) (Or.inr ⟨by rfl, rfl⟩) (by assumption) ?_
  try simp only [Act.put, List.setIfInBounds_toArray, List.set_cons_zero, List.set_cons_succ]
  refine wpAnyH_take (i := 6) (oi := { dst := some 71, op := Go.Op.load 24 (Go.Operand.tmp 10), type := 24, pos := "law.go:135", after := #[{ on := 4, ground := Go.Ground.guard }], guard := some (4, false) }) (v := undef) rfl (by kernel_rfl) (by kernel_rfl) (by kernel_rfl) (fun _ _ _ h => h) (Or.inr ⟨by rfl, rfl⟩) (by assumption) ?_
  try simp only [Act.put, List.setIfInBounds_toArray, List.set_cons_zero, List.set_cons_succ]
  refine wpAnyH_take (i := 8) (oi := { dst := some 73, op := Go.Op.move (Go.Operand.tmp 7), type := 3, pos := "law.go:135", after := #[{ on := 4, ground := Go.Ground.guard }], guard := some (4, false) }) (v := undef) rfl (by kernel_rfl) (by kernel_rfl) (by kernel_rfl) (fun _ _ _ h => h) (Or.inr ⟨by rfl, rfl⟩) (by assumption) ?_
  try simp only [Act.put, List.setIfInBounds_toArray, List.set_cons_zero, List.set_cons_succ]
  refine wpAnyH_take (i := 9) (oi := { dst := some 74, op := Go.Op.unOp Go.UnOp.neg 3 (Go.Operand.tmp 73), type := 3, pos := "law.go:135", after := #[{ on := 8, ground := Go.Ground.data }, { on := 4, ground := Go.Ground.guard }], guard := some (4, false) }) (v := undef) rfl (by kernel_rfl) (by kernel_rfl) (by kernel_rfl) (fun _ _ _ h => h) (Or.inr ⟨by rfl, rfl⟩) (by assumption) ?_
  try simp only [Act.put, List.setIfInBounds_toArray, List.set_cons_zero, List.set_cons_succ]
  refine wpAnyH_ready (rs := [7]) (by kernel_rfl) (by simp) ?_
  refine AllReadyH.cons (o := { dst := some 72, op := Go.Op.call { callee := Go.Callee.value (Go.Operand.func 23), args := #[Go.Operand.tmp 70, Go.Operand.tmp 71], argTypes := #[24, 24] }, type := 3, pos := "law.go:135", after := #[{ on := 5, ground := Go.Ground.data }, { on := 6, ground := Go.Ground.data }, { on := 4, ground := Go.Ground.chain }, { on := 4, ground := Go.Ground.guard }], guard := some (4, false) }) rfl (fun K hK => ?_) AllReadyH.nil
  go_simp
  refine hK.out _ _ ?_ (fun hHeld2 => ?_)
  · exact hHeld
  clear hK K hHeld
  have hHeld := hHeld2
  clear hHeld2
  try simp only [Act.put, List.setIfInBounds_toArray, List.set_cons_zero, List.set_cons_succ]
  refine wpAnyH_take (i := 10) (oi := { dst := some 75, op := Go.Op.binOp Go.BinOp.eql 3 (Go.Operand.tmp 72) (Go.Operand.tmp 74) 3, type := 4, pos := "law.go:135", after := #[{ on := 7, ground := Go.Ground.data }, { on := 9, ground := Go.Ground.data }, { on := 4, ground := Go.Ground.guard }], guard := some (4, false) }) (v := undef) rfl (by kernel_rfl) (by kernel_rfl) (by kernel_rfl) (fun _ _ _ h => h) (Or.inr ⟨by rfl, rfl⟩) (by assumption) ?_
  try simp only [Act.put, List.setIfInBounds_toArray, List.set_cons_zero, List.set_cons_succ]
  refine wpAnyH_take (i := 11) (oi := { dst := some 76, op := Go.Op.pick (Go.Operand.tmp 69) (Go.Operand.const (Go.Value.bool true)) (Go.Operand.tmp 75), type := 4, pos := "law.go:135", after := #[{ on := 4, ground := Go.Ground.data }, { on := 10, ground := Go.Ground.data }], guard := none }) (v := ?_) rfl (by kernel_rfl) (by kernel_rfl) (by kernel_rfl) (fun _ _ _ h => h) (Or.inl ⟨by rfl, ?_⟩) (by assumption) ?_
  rotate_left
  · intro w hSw
    go_simp
    try with_reducible rfl
  try simp only [Act.put, List.setIfInBounds_toArray, List.set_cons_zero, List.set_cons_succ]
  refine wpAnyH_take (i := 12) (oi := { dst := some 77, op := Go.Op.move (Go.Operand.tmp 76), type := 4, pos := "law.go:135", after := #[{ on := 11, ground := Go.Ground.data }, { on := 7, ground := Go.Ground.chain }], guard := none }) (v := ?_) rfl (by kernel_rfl) (by kernel_rfl) (by kernel_rfl) (fun _ _ _ h => h) (Or.inl ⟨by rfl, ?_⟩) (by assumption) ?_
  rotate_left
  · intro w hSw
    go_simp
    try with_reducible rfl
  try simp only [Act.put, List.setIfInBounds_toArray, List.set_cons_zero, List.set_cons_succ]
  refine wpAnyH_take (i := 13) (oi := { dst := some 78, op := Go.Op.load 24 (Go.Operand.tmp 3), type := 24, pos := "law.go:135", after := #[{ on := 12, ground := Go.Ground.guard }], guard := some (12, true) }) (v := ?_) rfl (by kernel_rfl) (by kernel_rfl) (by kernel_rfl) (fun _ _ _ h => h) (Or.inl ⟨by rfl, ?_⟩) (by assumption) ?_
  rotate_left
  · intro w hSw
    have k0 := (live_get hSw Ba a (by simp)).cell 0 (by omega)
    have k1 := (live_get hSw Ba a (by simp)).cell 1 (by omega)
    have k2 := (live_get hSw Ba a (by simp)).cell 2 (by omega)
    have k3 := (live_get hSw Ba a (by simp)).cell 3 (by omega)
    go_simp
    try with_reducible rfl
  try simp only [Act.put, List.setIfInBounds_toArray, List.set_cons_zero, List.set_cons_succ]
  refine wpAnyH_take (i := 15) (oi := { dst := some 80, op := Go.Op.load 24 (Go.Operand.tmp 3), type := 24, pos := "law.go:135", after := #[{ on := 12, ground := Go.Ground.guard }], guard := some (12, true) }) (v := ?_) rfl (by kernel_rfl) (by kernel_rfl) (by kernel_rfl) (fun _ _ _ h => h) (Or.inl ⟨by rfl, ?_⟩) (by assumption) ?_
  rotate_left
  · intro w hSw
    have k0 := (live_get hSw Ba a (by simp)).cell 0 (by omega)
    have k1 := (live_get hSw Ba a (by simp)).cell 1 (by omega)
    have k2 := (live_get hSw Ba a (by simp)).cell 2 (by omega)
    have k3 := (live_get hSw Ba a (by simp)).cell 3 (by omega)
    go_simp
    try with_reducible rfl
  try simp only [Act.put, List.setIfInBounds_toArray, List.set_cons_zero, List.set_cons_succ]
  refine wpAnyH_ready (rs := [14]) (by kernel_rfl) (by simp) ?_
  refine AllReadyH.cons (o := { dst := some 79, op := Go.Op.call { callee := Go.Callee.value (Go.Operand.func 25), args := #[Go.Operand.tmp 78], argTypes := #[24] }, type := 3, pos := "law.go:135", after := #[{ on := 13, ground := Go.Ground.data }, { on := 12, ground := Go.Ground.chain }, { on := 12, ground := Go.Ground.guard }], guard := some (12, true) }) rfl (fun K hK => ?_) AllReadyH.nil
  go_simp
  refine (sign_c ha Xhsg.out _).mono ?_
  rintro e W20 ⟨rfl, hBl⟩
  refine hK.out _ _ ?_ (fun hHeld2 => ?_)
  · exact live_below hHeld hBl
  clear hK K hHeld
  have hHeld := hHeld2
  clear hHeld2
  try simp only [Act.put, List.setIfInBounds_toArray, List.set_cons_zero, List.set_cons_succ]
  refine wpAnyH_ready (rs := [16]) (by kernel_rfl) (by simp) ?_
  refine AllReadyH.cons (o := { dst := some 81, op := Go.Op.call { callee := Go.Callee.value (Go.Operand.func 21), args := #[Go.Operand.const (Go.Value.int Go.IntKind.i64 0)], argTypes := #[3] }, type := 24, pos := "law.go:135", after := #[{ on := 14, ground := Go.Ground.chain }, { on := 12, ground := Go.Ground.guard }], guard := some (12, true) }) rfl (fun K hK => ?_) AllReadyH.nil
  go_simp
  refine (of_c i1 i2 Xhz.out _).mono ?_
  rintro e W21 ⟨rfl, hBl⟩
  refine hK.out _ _ ?_ (fun hHeld2 => ?_)
  · exact live_below hHeld hBl
  clear hK K hHeld
  have hHeld := hHeld2
  clear hHeld2
  try simp only [Act.put, List.setIfInBounds_toArray, List.set_cons_zero, List.set_cons_succ]
  refine wpAnyH_ready (rs := [17]) (by kernel_rfl) (by simp) ?_
  refine AllReadyH.cons (o := { dst := some 82, op := Go.Op.call { callee := Go.Callee.value (Go.Operand.func 23), args := #[Go.Operand.tmp 80, Go.Operand.tmp 81], argTypes := #[24, 24] }, type := 3, pos := "law.go:135", after := #[{ on := 15, ground := Go.Ground.data }, { on := 16, ground := Go.Ground.data }, { on := 16, ground := Go.Ground.chain }, { on := 12, ground := Go.Ground.guard }], guard := some (12, true) }) rfl (fun K hK => ?_) AllReadyH.nil
  go_simp
  refine (cmp_c ha vz Xhcz.out _).mono ?_
  rintro e W22 ⟨rfl, hBl⟩
  refine hK.out _ _ ?_ (fun hHeld2 => ?_)
  · exact live_below hHeld hBl
  clear hK K hHeld
  have hHeld := hHeld2
  clear hHeld2
  try simp only [Act.put, List.setIfInBounds_toArray, List.set_cons_zero, List.set_cons_succ]
  refine wpAnyH_take (i := 18) (oi := { dst := some 83, op := Go.Op.binOp Go.BinOp.eql 3 (Go.Operand.tmp 79) (Go.Operand.tmp 82) 3, type := 4, pos := "law.go:135", after := #[{ on := 14, ground := Go.Ground.data }, { on := 17, ground := Go.Ground.data }, { on := 12, ground := Go.Ground.guard }], guard := some (12, true) }) (v := ?_) rfl (by kernel_rfl) (by kernel_rfl) (by kernel_rfl) (fun _ _ _ h => h) (Or.inl ⟨by rfl, ?_⟩) (by assumption) ?_
  rotate_left
  · intro w hSw
    go_simp
    try with_reducible rfl
  try simp only [Act.put, List.setIfInBounds_toArray, List.set_cons_zero, List.set_cons_succ]
  refine wpAnyH_take (i := 19) (oi := { dst := some 84, op := Go.Op.pick (Go.Operand.tmp 77) (Go.Operand.tmp 83) (Go.Operand.const (Go.Value.bool false)), type := 4, pos := "law.go:135", after := #[{ on := 12, ground := Go.Ground.data }, { on := 18, ground := Go.Ground.data }], guard := none }) (v := ?_) rfl (by kernel_rfl) (by kernel_rfl) (by kernel_rfl) (fun _ _ _ h => h) (Or.inl ⟨by rfl, ?_⟩) (by assumption) ?_
  rotate_left
  · intro w hSw
    go_simp
    try with_reducible rfl
  try simp only [Act.put, List.setIfInBounds_toArray, List.set_cons_zero, List.set_cons_succ]
  refine wpAnyH_take (i := 20) (oi := { dst := some 85, op := Go.Op.move (Go.Operand.tmp 84), type := 4, pos := "law.go:135", after := #[{ on := 19, ground := Go.Ground.data }, { on := 17, ground := Go.Ground.chain }], guard := none }) (v := ?_) rfl (by kernel_rfl) (by kernel_rfl) (by kernel_rfl) (fun _ _ _ h => h) (Or.inl ⟨by rfl, ?_⟩) (by assumption) ?_
  rotate_left
  · intro w hSw
    go_simp
    try with_reducible rfl
  try simp only [Act.put, List.setIfInBounds_toArray, List.set_cons_zero, List.set_cons_succ]
  refine wpAnyH_ready (rs := [21]) (by kernel_rfl) (by simp) ?_
  refine AllReadyH.cons (o := { dst := some 86, op := Go.Op.call { callee := Go.Callee.value (Go.Operand.func 8), args := #[], argTypes := #[] }, type := 4, pos := "law.go:135", after := #[{ on := 20, ground := Go.Ground.chain }, { on := 20, ground := Go.Ground.guard }], guard := some (20, true) }) rfl (fun K hK => ?_) AllReadyH.nil
  go_simp
  refine (wakes_x _).mono ?_
  rintro e W23 ⟨rfl, hBl⟩
  refine hK.out _ _ ?_ (fun hHeld2 => ?_)
  · exact live_below hHeld hBl
  clear hK K hHeld
  have hHeld := hHeld2
  clear hHeld2
  try simp only [Act.put, List.setIfInBounds_toArray, List.set_cons_zero, List.set_cons_succ]
  refine wpAnyH_take (i := 22) (oi := { dst := some 87, op := Go.Op.pick (Go.Operand.tmp 85) (Go.Operand.tmp 86) (Go.Operand.const (Go.Value.bool false)), type := 4, pos := "law.go:135", after := #[{ on := 20, ground := Go.Ground.data }, { on := 21, ground := Go.Ground.data }], guard := none }) (v := ?_) rfl (by kernel_rfl) (by kernel_rfl) (by kernel_rfl) (fun _ _ _ h => h) (Or.inl ⟨by rfl, ?_⟩) (by assumption) ?_
  rotate_left
  · intro w hSw
    go_simp
    try with_reducible rfl
  try simp only [Act.put, List.setIfInBounds_toArray, List.set_cons_zero, List.set_cons_succ]
  refine wpAnyH_take (i := 23) (oi := { dst := some 6, op := Go.Op.assign (Go.Operand.tmp 87), type := 4, pos := "law.go:135", after := #[{ on := 22, ground := Go.Ground.data }, { on := 21, ground := Go.Ground.chain }, { on := 0, ground := Go.Ground.phase }, { on := 1, ground := Go.Ground.phase }, { on := 2, ground := Go.Ground.phase }, { on := 3, ground := Go.Ground.phase }, { on := 4, ground := Go.Ground.phase }, { on := 5, ground := Go.Ground.phase }, { on := 6, ground := Go.Ground.phase }, { on := 7, ground := Go.Ground.phase }, { on := 8, ground := Go.Ground.phase }, { on := 9, ground := Go.Ground.phase }, { on := 10, ground := Go.Ground.phase }, { on := 11, ground := Go.Ground.phase }, { on := 12, ground := Go.Ground.phase }, { on := 13, ground := Go.Ground.phase }, { on := 14, ground := Go.Ground.phase }, { on := 15, ground := Go.Ground.phase }, { on := 16, ground := Go.Ground.phase }, { on := 17, ground := Go.Ground.phase }, { on := 18, ground := Go.Ground.phase }, { on := 19, ground := Go.Ground.phase }, { on := 20, ground := Go.Ground.phase }, { on := 21, ground := Go.Ground.phase }, { on := 22, ground := Go.Ground.phase }], guard := none }) (v := ?_) rfl (by kernel_rfl) (by kernel_rfl) (by kernel_rfl) (fun _ _ _ h => h) (Or.inl ⟨by rfl, ?_⟩) (by assumption) ?_
  rotate_left
  · intro w hSw
    go_simp
    try with_reducible rfl
  try simp only [Act.put, List.setIfInBounds_toArray, List.set_cons_zero, List.set_cons_succ]
  refine wpAnyH_done (by kernel_rfl) ?_ _
  have hL := hHeld
  clear hHeld
  go_wp2
  go_ret
  exact ⟨rfl, hL.2⟩

set_option maxRecDepth 100000 in
set_option maxHeartbeats 4000000 in
theorem or_11 (a b c x y z : Nat → Nat) (ze o2 : Bool) (n n2 n3 sg : Int) (ha : Wds a) (hb : Wds b) (hc : Wds c) (vx : Wds x) (vy : Wds y) (vz : Wds z)
    (hn : cmpR a b = n) (hm : cmpR b a = -n) (hn2 : cmpR b c = n2) (hn3 : cmpR a c = n3) (hx : negR a = x) (hy : negR b = y) (hz : ofR 0 = z) (hsg : signI a = sg) (hcz : cmpR a z = sg) (he : eqB a b = ze)
    (b1 : -1 ≤ n) (b2 : n ≤ 1) (hze : (n == 0) = ze) (hl1 : decide (n < -1) = false) (hl2 : decide (1 < n) = false)
    (hg1 : decide (n ≤ 0) = true) (hg2 : decide (n2 ≤ 0) = false) (ho1 : negO a = false) (ho2 : negO b = true) (w : World) :
    Calls Try.prog 6 #[.agg #[.int .u64 (a 0), .int .u64 (a 1), .int .u64 (a 2), .int .u64 (a 3)], .agg #[.int .u64 (b 0), .int .u64 (b 1), .int .u64 (b 2), .int .u64 (b 3)], .agg #[.int .u64 (c 0), .int .u64 (c 1), .int .u64 (c 2), .int .u64 (c 3)]] w fun e w' => e = .returned (.bool true) ∧ Below w.heap.size w w' := by
  have E := fun w => eq_c he w
  have i1 : (-9223372036854775808 : Int) ≤ 0 := by omega
  have i2 : (0 : Int) ≤ 9223372036854775807 := by omega
  have hwn : IntKind.i64.wrap (-n) = -n := IntWalk.i64_in _ (by omega)
  have hL := live_alloc (live_alloc (live_alloc (live_nil w) a) b) c
  simp only [World.size_alloc] at hL
  have Xhn := Lib.hid hn
  have Xhm := Lib.hid hm
  have Xhn2 := Lib.hid hn2
  have Xhn3 := Lib.hid hn3
  have Xhx := Lib.hid hx
  have Xhy := Lib.hid hy
  have Xhz := Lib.hid hz
  have Xhsg := Lib.hid hsg
  have Xhcz := Lib.hid hcz
  have Xhe := Lib.hid he
  have Xho1 := Lib.hid ho1
  have Xho2 := Lib.hid ho2
  clear hn hm hn2 hn3 hx hy hz hsg hcz he ho1 ho2
  go_enter Try.func6, Try.ntmps6
  go_wp2_with fail
  obtain ⟨V0, hV0⟩ : ∃ V, ((w.alloc (.cells #[.int .u64 (a 0), .int .u64 (a 1), .int .u64 (a 2), .int .u64 (a 3)] 24)).alloc (.cells #[.int .u64 (b 0), .int .u64 (b 1), .int .u64 (b 2), .int .u64 (b 3)] 24)).alloc (.cells #[.int .u64 (c 0), .int .u64 (c 1), .int .u64 (c 2), .int .u64 (c 3)] 24) = V := ⟨_, rfl⟩
  rw [hV0] at hL ⊢
  obtain ⟨Bc, hBc⟩ : ∃ B, w.heap.size + 1 + 1 = B := ⟨_, rfl⟩
  rw [hBc] at hL ⊢
  obtain ⟨Bb, hBb⟩ : ∃ B, w.heap.size + 1 = B := ⟨_, rfl⟩
  rw [hBb] at hL ⊢
  obtain ⟨Ba, hBa⟩ : ∃ B, w.heap.size = B := ⟨_, rfl⟩
  rw [hBa] at hL ⊢
  clear hV0 hBc hBb hBa
  refine (cmp_c ha hb Xhn.out _).mono ?_
  rintro e W3 ⟨rfl, hB⟩
  have hL2 := live_below hL hB
  clear hB hL
  have hL := hL2
  clear hL2
  have q4a := (live_get hL Ba a (by simp)).cell 0 (by omega)
  have q4b := (live_get hL Ba a (by simp)).cell 1 (by omega)
  have q4c := (live_get hL Ba a (by simp)).cell 2 (by omega)
  have q4d := (live_get hL Ba a (by simp)).cell 3 (by omega)
  have q5a := (live_get hL Bb b (by simp)).cell 0 (by omega)
  have q5b := (live_get hL Bb b (by simp)).cell 1 (by omega)
  have q5c := (live_get hL Bb b (by simp)).cell 2 (by omega)
  have q5d := (live_get hL Bb b (by simp)).cell 3 (by omega)
  go_wp2_with fail
  clear q4a q4b q4c q4d q5a q5b q5c q5d
  refine (cmp_c hb ha Xhm.out _).mono ?_
  rintro e W6 ⟨rfl, hB⟩
  have hL2 := live_below hL hB
  clear hB hL
  have hL := hL2
  clear hL2
  have q7a := (live_get hL Ba a (by simp)).cell 0 (by omega)
  have q7b := (live_get hL Ba a (by simp)).cell 1 (by omega)
  have q7c := (live_get hL Ba a (by simp)).cell 2 (by omega)
  have q7d := (live_get hL Ba a (by simp)).cell 3 (by omega)
  have q8a := (live_get hL Bb b (by simp)).cell 0 (by omega)
  have q8b := (live_get hL Bb b (by simp)).cell 1 (by omega)
  have q8c := (live_get hL Bb b (by simp)).cell 2 (by omega)
  have q8d := (live_get hL Bb b (by simp)).cell 3 (by omega)
  go_wp2_with fail
  clear q7a q7b q7c q7d q8a q8b q8c q8d
  refine (cmp_c ha hb Xhn.out _).mono ?_
  rintro e W9 ⟨rfl, hB⟩
  have hL2 := live_below hL hB
  clear hB hL
  have hL := hL2
  clear hL2
  have q10a := (live_get hL Bb b (by simp)).cell 0 (by omega)
  have q10b := (live_get hL Bb b (by simp)).cell 1 (by omega)
  have q10c := (live_get hL Bb b (by simp)).cell 2 (by omega)
  have q10d := (live_get hL Bb b (by simp)).cell 3 (by omega)
  have q11a := (live_get hL Bc c (by simp)).cell 0 (by omega)
  have q11b := (live_get hL Bc c (by simp)).cell 1 (by omega)
  have q11c := (live_get hL Bc c (by simp)).cell 2 (by omega)
  have q11d := (live_get hL Bc c (by simp)).cell 3 (by omega)
  go_wp2_with fail
  clear q10a q10b q10c q10d q11a q11b q11c q11d
  refine (cmp_c hb hc Xhn2.out _).mono ?_
  rintro e W12 ⟨rfl, hB⟩
  have hL2 := live_below hL hB
  clear hB hL
  have hL := hL2
  clear hL2
  have q13a := (live_get hL Ba a (by simp)).cell 0 (by omega)
  have q13b := (live_get hL Ba a (by simp)).cell 1 (by omega)
  have q13c := (live_get hL Ba a (by simp)).cell 2 (by omega)
  have q13d := (live_get hL Ba a (by simp)).cell 3 (by omega)
  go_wp2_with fail
  clear q13a q13b q13c q13d
  refine (neg_c ha Xhx.out Xho1.out _).mono ?_
  rintro e W14 ⟨rfl, hB⟩
  have hL2 := live_alloc (live_below hL hB) x
  clear hB hL
  have hL := hL2
  clear hL2
  have q15a := (live_get hL Bb b (by simp)).cell 0 (by omega)
  have q15b := (live_get hL Bb b (by simp)).cell 1 (by omega)
  have q15c := (live_get hL Bb b (by simp)).cell 2 (by omega)
  have q15d := (live_get hL Bb b (by simp)).cell 3 (by omega)
  go_wp2_with fail
  clear q15a q15b q15c q15d
  obtain ⟨B16, hBx⟩ : ∃ B, W14.heap.size = B := ⟨_, rfl⟩
  obtain ⟨V16, hVx⟩ : ∃ V, W14.alloc (.cells #[.int .u64 (x 0), .int .u64 (x 1), .int .u64 (x 2), .int .u64 (x 3)] 24) = V := ⟨_, rfl⟩
  rw [hBx, hVx] at hL
  rw [hBx, hVx]
  clear hBx hVx
  refine (neg_c hb Xhy.out Xho2.out _).mono ?_
  rintro e W17 ⟨rfl, hB⟩
  have hL2 := live_alloc (live_below hL hB) y
  clear hB hL
  have hL := hL2
  clear hL2
  go_wp2_with fail
  obtain ⟨B18, hBx⟩ : ∃ B, W17.heap.size = B := ⟨_, rfl⟩
  obtain ⟨V18, hVx⟩ : ∃ V, W17.alloc (.cells #[.int .u64 (y 0), .int .u64 (y 1), .int .u64 (y 2), .int .u64 (y 3)] 24) = V := ⟨_, rfl⟩
  rw [hBx, hVx] at hL
  rw [hBx, hVx]
  clear hBx hVx
  refine wp_region_held_drew (S := fun W' => Live w [(B18, y), (B16, x), (Bc, c), (Bb, b), (Ba, a)] W') (by kernel_rfl) (live_drew hL) (fun hHeld => ?_)
  obtain ⟨D19, hW0⟩ : ∃ W0, V18.drew = W0 := ⟨_, rfl⟩
  rw [hW0] at hHeld ⊢
  clear hW0 hL
  refine wpAnyH_take (i := 0) (oi := { dst := some 65, op := Go.Op.move (Go.Operand.tmp 9), type := 4, pos := "law.go:135", after := #[], guard := none }) (v := ?_) rfl (by kernel_rfl) (by kernel_rfl) (by kernel_rfl) (fun _ _ _ h => h) (Or.inl ⟨by rfl, ?_⟩) (by assumption) ?_
  rotate_left
  · intro w hSw
    go_simp
    try with_reducible rfl
  try simp only [Act.put, List.setIfInBounds_toArray, List.set_cons_zero, List.set_cons_succ]
  refine wpAnyH_take (i := 1) (oi := { dst := some 66, op := Go.Op.move (Go.Operand.tmp 65), type := 4, pos := "law.go:135", after := #[{ on := 0, ground := Go.Ground.data }], guard := none }) (v := ?_) rfl (by kernel_rfl) (by kernel_rfl) (by kernel_rfl) (fun _ _ _ h => h) (Or.inl ⟨by rfl, ?_⟩) (by assumption) ?_
  rotate_left
  · intro w hSw
    go_simp
    try with_reducible rfl
  try simp only [Act.put, List.setIfInBounds_toArray, List.set_cons_zero, List.set_cons_succ]
  refine wpAnyH_take (i := 2) (oi := { dst := some 67, op := Go.Op.move (Go.Operand.tmp 11), type := 4, pos := "law.go:135", after := #[{ on := 1, ground := Go.Ground.guard }], guard := some (1, false) }) (v := ?_) rfl (by kernel_rfl) (by kernel_rfl) (by kernel_rfl) (fun _ _ _ h => h) (Or.inl ⟨by rfl, ?_⟩) (by assumption) ?_
  rotate_left
  · intro w hSw
    go_simp
    try with_reducible rfl
  try simp only [Act.put, List.setIfInBounds_toArray, List.set_cons_zero, List.set_cons_succ]
  refine wpAnyH_take (i := 3) (oi := { dst := some 68, op := Go.Op.pick (Go.Operand.tmp 66) (Go.Operand.const (Go.Value.bool true)) (Go.Operand.tmp 67), type := 4, pos := "law.go:135", after := #[{ on := 1, ground := Go.Ground.data }, { on := 2, ground := Go.Ground.data }], guard := none }) (v := ?_) rfl (by kernel_rfl) (by kernel_rfl) (by kernel_rfl) (fun _ _ _ h => h) (Or.inl ⟨by rfl, ?_⟩) (by assumption) ?_
  rotate_left
  · intro w hSw
    go_simp
    try with_reducible rfl
  try simp only [Act.put, List.setIfInBounds_toArray, List.set_cons_zero, List.set_cons_succ]
  refine wpAnyH_take (i := 4) (oi := { dst := some 69, op := Go.Op.move (Go.Operand.tmp 68), type := 4, pos := "law.go:135", after := #[{ on := 3, ground := Go.Ground.data }, { on := 1, ground := Go.Ground.chain }], guard := none }) (v := ?_) rfl (by kernel_rfl) (by kernel_rfl) (by kernel_rfl) (fun _ _ _ h => h) (Or.inl ⟨by rfl, ?_⟩) (by assumption) ?_
  rotate_left
  · intro w hSw
    go_simp
    try with_reducible rfl
  try simp only [Act.put, List.setIfInBounds_toArray, List.set_cons_zero, List.set_cons_succ]
  refine wpAnyH_take (i := 5) (oi := { dst := some 70, op := Go.Op.load 24 (Go.Operand.tmp 8), type := 24, pos := "law.go:135", after := #[{ on := 4, ground := Go.Ground.guard }], guard := some (4, false) }) (v := undef) rfl (by kernel_rfl) (by kernel_rfl) (by kernel_rfl) (fun _ _ _ h => h) (Or.inr ⟨by rfl, rfl⟩) (by assumption) ?_
  try simp only [Act.put, List.setIfInBounds_toArray, List.set_cons_zero, List.set_cons_succ]
  refine wpAnyH_take (i := 6) (oi := { dst := some 71, op := Go.Op.load 24 (Go.Operand.tmp 10), type := 24, pos := "law.go:135", after := #[{ on := 4, ground := Go.Ground.guard }], guard := some (4, false) }) (v := undef) rfl (by kernel_rfl) (by kernel_rfl) (by kernel_rfl) (fun _ _ _ h => h) (Or.inr ⟨by rfl, rfl⟩) (by assumption) ?_
  try simp only [Act.put, List.setIfInBounds_toArray, List.set_cons_zero, List.set_cons_succ]
  refine wpAnyH_take (i := 8) (oi := { dst := some 73, op := Go.Op.move (Go.Operand.tmp 7), type := 3, pos := "law.go:135", after := #[{ on := 4, ground := Go.Ground.guard }], guard := some (4, false) }) (v := undef) rfl (by kernel_rfl) (by kernel_rfl) (by kernel_rfl) (fun _ _ _ h => h) (Or.inr ⟨by rfl, rfl⟩) (by assumption) ?_
  try simp only [Act.put, List.setIfInBounds_toArray, List.set_cons_zero, List.set_cons_succ]
  refine wpAnyH_take (i := 9) (oi := { dst := some 74, op := Go.Op.unOp Go.UnOp.neg 3 (Go.Operand.tmp 73), type := 3, pos := "law.go:135", after := #[{ on := 8, ground := Go.Ground.data }, { on := 4, ground := Go.Ground.guard }], guard := some (4, false) }) (v := undef) rfl (by kernel_rfl) (by kernel_rfl) (by kernel_rfl) (fun _ _ _ h => h) (Or.inr ⟨by rfl, rfl⟩) (by assumption) ?_
  try simp only [Act.put, List.setIfInBounds_toArray, List.set_cons_zero, List.set_cons_succ]
  refine wpAnyH_ready (rs := [7]) (by kernel_rfl) (by simp) ?_
  refine AllReadyH.cons (o := { dst := some 72, op := Go.Op.call { callee := Go.Callee.value (Go.Operand.func 23), args := #[Go.Operand.tmp 70, Go.Operand.tmp 71], argTypes := #[24, 24] }, type := 3, pos := "law.go:135", after := #[{ on := 5, ground := Go.Ground.data }, { on := 6, ground := Go.Ground.data }, { on := 4, ground := Go.Ground.chain }, { on := 4, ground := Go.Ground.guard }], guard := some (4, false) }) rfl (fun K hK => ?_) AllReadyH.nil
  go_simp
  refine hK.out _ _ ?_ (fun hHeld2 => ?_)
  · exact hHeld
  clear hK K hHeld
  have hHeld := hHeld2
  clear hHeld2
  try simp only [Act.put, List.setIfInBounds_toArray, List.set_cons_zero, List.set_cons_succ]
  refine wpAnyH_take (i := 10) (oi := { dst := some 75, op := Go.Op.binOp Go.BinOp.eql 3 (Go.Operand.tmp 72) (Go.Operand.tmp 74) 3, type := 4, pos := "law.go:135", after := #[{ on := 7, ground := Go.Ground.data }, { on := 9, ground := Go.Ground.data }, { on := 4, ground := Go.Ground.guard }], guard := some (4, false) }) (v := undef) rfl (by kernel_rfl) (by kernel_rfl) (by kernel_rfl) (fun _ _ _ h => h) (Or.inr ⟨by rfl, rfl⟩) (by assumption) ?_
  try simp only [Act.put, List.setIfInBounds_toArray, List.set_cons_zero, List.set_cons_succ]
  refine wpAnyH_take (i := 11) (oi := { dst := some 76, op := Go.Op.pick (Go.Operand.tmp 69) (Go.Operand.const (Go.Value.bool true)) (Go.Operand.tmp 75), type := 4, pos := "law.go:135", after := #[{ on := 4, ground := Go.Ground.data }, { on := 10, ground := Go.Ground.data }], guard := none }) (v := ?_) rfl (by kernel_rfl) (by kernel_rfl) (by kernel_rfl) (fun _ _ _ h => h) (Or.inl ⟨by rfl, ?_⟩) (by assumption) ?_
  rotate_left
  · intro w hSw
    go_simp
    try with_reducible rfl
  try simp only [Act.put, List.setIfInBounds_toArray, List.set_cons_zero, List.set_cons_succ]
  refine wpAnyH_take (i := 12) (oi := { dst := some 77, op := Go.Op.move (Go.Operand.tmp 76), type := 4, pos := "law.go:135", after := #[{ on := 11, ground := Go.Ground.data }, { on := 7, ground := Go.Ground.chain }], guard := none }) (v := ?_) rfl (by kernel_rfl) (by kernel_rfl) (by kernel_rfl) (fun _ _ _ h => h) (Or.inl ⟨by rfl, ?_⟩) (by assumption) ?_
  rotate_left
  · intro w hSw
    go_simp
    try with_reducible rfl
  try simp only [Act.put, List.setIfInBounds_toArray, List.set_cons_zero, List.set_cons_succ]
  refine wpAnyH_take (i := 13) (oi := { dst := some 78, op := Go.Op.load 24 (Go.Operand.tmp 3), type := 24, pos := "law.go:135", after := #[{ on := 12, ground := Go.Ground.guard }], guard := some (12, true) }) (v := ?_) rfl (by kernel_rfl) (by kernel_rfl) (by kernel_rfl) (fun _ _ _ h => h) (Or.inl ⟨by rfl, ?_⟩) (by assumption) ?_
  rotate_left
  · intro w hSw
    have k0 := (live_get hSw Ba a (by simp)).cell 0 (by omega)
    have k1 := (live_get hSw Ba a (by simp)).cell 1 (by omega)
    have k2 := (live_get hSw Ba a (by simp)).cell 2 (by omega)
    have k3 := (live_get hSw Ba a (by simp)).cell 3 (by omega)
    go_simp
    try with_reducible rfl
  try simp only [Act.put, List.setIfInBounds_toArray, List.set_cons_zero, List.set_cons_succ]
  refine wpAnyH_take (i := 15) (oi := { dst := some 80, op := Go.Op.load 24 (Go.Operand.tmp 3), type := 24, pos := "law.go:135", after := #[{ on := 12, ground := Go.Ground.guard }], guard := some (12, true) }) (v := ?_) rfl (by kernel_rfl) (by kernel_rfl) (by kernel_rfl) (fun _ _ _ h => h) (Or.inl ⟨by rfl, ?_⟩) (by assumption) ?_
  rotate_left
  · intro w hSw
    have k0 := (live_get hSw Ba a (by simp)).cell 0 (by omega)
    have k1 := (live_get hSw Ba a (by simp)).cell 1 (by omega)
    have k2 := (live_get hSw Ba a (by simp)).cell 2 (by omega)
    have k3 := (live_get hSw Ba a (by simp)).cell 3 (by omega)
    go_simp
    try with_reducible rfl
  try simp only [Act.put, List.setIfInBounds_toArray, List.set_cons_zero, List.set_cons_succ]
  refine wpAnyH_ready (rs := [14]) (by kernel_rfl) (by simp) ?_
  refine AllReadyH.cons (o := { dst := some 79, op := Go.Op.call { callee := Go.Callee.value (Go.Operand.func 25), args := #[Go.Operand.tmp 78], argTypes := #[24] }, type := 3, pos := "law.go:135", after := #[{ on := 13, ground := Go.Ground.data }, { on := 12, ground := Go.Ground.chain }, { on := 12, ground := Go.Ground.guard }], guard := some (12, true) }) rfl (fun K hK => ?_) AllReadyH.nil
  go_simp
  refine (sign_c ha Xhsg.out _).mono ?_
  rintro e W20 ⟨rfl, hBl⟩
  refine hK.out _ _ ?_ (fun hHeld2 => ?_)
  · exact live_below hHeld hBl
  clear hK K hHeld
  have hHeld := hHeld2
  clear hHeld2
  try simp only [Act.put, List.setIfInBounds_toArray, List.set_cons_zero, List.set_cons_succ]
  refine wpAnyH_ready (rs := [16]) (by kernel_rfl) (by simp) ?_
  refine AllReadyH.cons (o := { dst := some 81, op := Go.Op.call { callee := Go.Callee.value (Go.Operand.func 21), args := #[Go.Operand.const (Go.Value.int Go.IntKind.i64 0)], argTypes := #[3] }, type := 24, pos := "law.go:135", after := #[{ on := 14, ground := Go.Ground.chain }, { on := 12, ground := Go.Ground.guard }], guard := some (12, true) }) rfl (fun K hK => ?_) AllReadyH.nil
  go_simp
  refine (of_c i1 i2 Xhz.out _).mono ?_
  rintro e W21 ⟨rfl, hBl⟩
  refine hK.out _ _ ?_ (fun hHeld2 => ?_)
  · exact live_below hHeld hBl
  clear hK K hHeld
  have hHeld := hHeld2
  clear hHeld2
  try simp only [Act.put, List.setIfInBounds_toArray, List.set_cons_zero, List.set_cons_succ]
  refine wpAnyH_ready (rs := [17]) (by kernel_rfl) (by simp) ?_
  refine AllReadyH.cons (o := { dst := some 82, op := Go.Op.call { callee := Go.Callee.value (Go.Operand.func 23), args := #[Go.Operand.tmp 80, Go.Operand.tmp 81], argTypes := #[24, 24] }, type := 3, pos := "law.go:135", after := #[{ on := 15, ground := Go.Ground.data }, { on := 16, ground := Go.Ground.data }, { on := 16, ground := Go.Ground.chain }, { on := 12, ground := Go.Ground.guard }], guard := some (12, true) }) rfl (fun K hK => ?_) AllReadyH.nil
  go_simp
  refine (cmp_c ha vz Xhcz.out _).mono ?_
  rintro e W22 ⟨rfl, hBl⟩
  refine hK.out _ _ ?_ (fun hHeld2 => ?_)
  · exact live_below hHeld hBl
  clear hK K hHeld
  have hHeld := hHeld2
  clear hHeld2
  try simp only [Act.put, List.setIfInBounds_toArray, List.set_cons_zero, List.set_cons_succ]
  refine wpAnyH_take (i := 18) (oi := { dst := some 83, op := Go.Op.binOp Go.BinOp.eql 3 (Go.Operand.tmp 79) (Go.Operand.tmp 82) 3, type := 4, pos := "law.go:135", after := #[{ on := 14, ground := Go.Ground.data }, { on := 17, ground := Go.Ground.data }, { on := 12, ground := Go.Ground.guard }], guard := some (12, true) }) (v := ?_) rfl (by kernel_rfl) (by kernel_rfl) (by kernel_rfl) (fun _ _ _ h => h) (Or.inl ⟨by rfl, ?_⟩) (by assumption) ?_
  rotate_left
  · intro w hSw
    go_simp
    try with_reducible rfl
  try simp only [Act.put, List.setIfInBounds_toArray, List.set_cons_zero, List.set_cons_succ]
  refine wpAnyH_take (i := 19) (oi := { dst := some 84, op := Go.Op.pick (Go.Operand.tmp 77) (Go.Operand.tmp 83) (Go.Operand.const (Go.Value.bool false)), type := 4, pos := "law.go:135", after := #[{ on := 12, ground := Go.Ground.data }, { on := 18, ground := Go.Ground.data }], guard := none }) (v := ?_) rfl (by kernel_rfl) (by kernel_rfl) (by kernel_rfl) (fun _ _ _ h => h) (Or.inl ⟨by rfl, ?_⟩) (by assumption) ?_
  rotate_left
  · intro w hSw
    go_simp
    try with_reducible rfl
  try simp only [Act.put, List.setIfInBounds_toArray, List.set_cons_zero, List.set_cons_succ]
  refine wpAnyH_take (i := 20) (oi := { dst := some 85, op := Go.Op.move (Go.Operand.tmp 84), type := 4, pos := "law.go:135", after := #[{ on := 19, ground := Go.Ground.data }, { on := 17, ground := Go.Ground.chain }], guard := none }) (v := ?_) rfl (by kernel_rfl) (by kernel_rfl) (by kernel_rfl) (fun _ _ _ h => h) (Or.inl ⟨by rfl, ?_⟩) (by assumption) ?_
  rotate_left
  · intro w hSw
    go_simp
    try with_reducible rfl
  try simp only [Act.put, List.setIfInBounds_toArray, List.set_cons_zero, List.set_cons_succ]
  refine wpAnyH_ready (rs := [21]) (by kernel_rfl) (by simp) ?_
  refine AllReadyH.cons (o := { dst := some 86, op := Go.Op.call { callee := Go.Callee.value (Go.Operand.func 8), args := #[], argTypes := #[] }, type := 4, pos := "law.go:135", after := #[{ on := 20, ground := Go.Ground.chain }, { on := 20, ground := Go.Ground.guard }], guard := some (20, true) }) rfl (fun K hK => ?_) AllReadyH.nil
  go_simp
  refine (wakes_x _).mono ?_
  rintro e W23 ⟨rfl, hBl⟩
  refine hK.out _ _ ?_ (fun hHeld2 => ?_)
  · exact live_below hHeld hBl
  clear hK K hHeld
  have hHeld := hHeld2
  clear hHeld2
  try simp only [Act.put, List.setIfInBounds_toArray, List.set_cons_zero, List.set_cons_succ]
  refine wpAnyH_take (i := 22) (oi := { dst := some 87, op := Go.Op.pick (Go.Operand.tmp 85) (Go.Operand.tmp 86) (Go.Operand.const (Go.Value.bool false)), type := 4, pos := "law.go:135", after := #[{ on := 20, ground := Go.Ground.data }, { on := 21, ground := Go.Ground.data }], guard := none }) (v := ?_) rfl (by kernel_rfl) (by kernel_rfl) (by kernel_rfl) (fun _ _ _ h => h) (Or.inl ⟨by rfl, ?_⟩) (by assumption) ?_
  rotate_left
  · intro w hSw
    go_simp
    try with_reducible rfl
  try simp only [Act.put, List.setIfInBounds_toArray, List.set_cons_zero, List.set_cons_succ]
  refine wpAnyH_take (i := 23) (oi := { dst := some 6, op := Go.Op.assign (Go.Operand.tmp 87), type := 4, pos := "law.go:135", after := #[{ on := 22, ground := Go.Ground.data }, { on := 21, ground := Go.Ground.chain }, { on := 0, ground := Go.Ground.phase }, { on := 1, ground := Go.Ground.phase }, { on := 2, ground := Go.Ground.phase }, { on := 3, ground := Go.Ground.phase }, { on := 4, ground := Go.Ground.phase }, { on := 5, ground := Go.Ground.phase }, { on := 6, ground := Go.Ground.phase }, { on := 7, ground := Go.Ground.phase }, { on := 8, ground := Go.Ground.phase }, { on := 9, ground := Go.Ground.phase }, { on := 10, ground := Go.Ground.phase }, { on := 11, ground := Go.Ground.phase }, { on := 12, ground := Go.Ground.phase }, { on := 13, ground := Go.Ground.phase }, { on := 14, ground := Go.Ground.phase }, { on := 15, ground := Go.Ground.phase }, { on := 16, ground := Go.Ground.phase }, { on := 17, ground := Go.Ground.phase }, { on := 18, ground := Go.Ground.phase }, { on := 19, ground := Go.Ground.phase }, { on := 20, ground := Go.Ground.phase }, { on := 21, ground := Go.Ground.phase }, { on := 22, ground := Go.Ground.phase }], guard := none }) (v := ?_) rfl (by kernel_rfl) (by kernel_rfl) (by kernel_rfl) (fun _ _ _ h => h) (Or.inl ⟨by rfl, ?_⟩) (by assumption) ?_
  rotate_left
  · intro w hSw
    go_simp
    try with_reducible rfl
  try simp only [Act.put, List.setIfInBounds_toArray, List.set_cons_zero, List.set_cons_succ]
  refine wpAnyH_done (by kernel_rfl) ?_ _
  have hL := hHeld
  clear hHeld
  go_wp2
  go_ret
  exact ⟨rfl, hL.2⟩

end Go.Proofs.Ytmlbppljencdnaa
