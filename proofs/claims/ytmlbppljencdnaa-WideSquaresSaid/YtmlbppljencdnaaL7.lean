/- WideSquares answers true at every input. -/
import Derived.Test.YtmlbppljencdnaaWk
import Derived.Test.YtmlbppljencdnaaP3
namespace Go.Proofs.Ytmlbppljencdnaa
open Go Go.RowKit Go.Shelf

set_option maxRecDepth 100000 in
set_option maxHeartbeats 4000000 in
theorem sq_1 (a b p q s d x y : Nat → Nat) (o2 os od ox oy : Bool) (sp sa sb c1 c2 : Int) (ha : Wds a) (hb : Wds b) (vp : Wds p) (vq : Wds q) (vs : Wds s) (vd : Wds d)
    (hp : mulR a a = p) (hq : mulR b b = q) (hs : addR a b = s) (hd : subR a b = d) (hx : mulR s d = x) (hy : subR p q = y) (hos : addO a b = os) (hod : subO a b = od) (hox : mulO s d = ox) (hoy : subO p q = oy)
    (hsp0 : signI p = sp) (hsa0 : signI a = sa) (hsb0 : signI b = sb) (hc1 : cmpR p q = c1) (hc2 : cmpR a b = c2) (he : eqB x y = true)
    (ho1 : mulO a a = true) (ho2 : mulO b b = o2) (w : World) :
    Calls Try.prog 7 #[.agg #[.int .u64 (a 0), .int .u64 (a 1), .int .u64 (a 2), .int .u64 (a 3)], .agg #[.int .u64 (b 0), .int .u64 (b 1), .int .u64 (b 2), .int .u64 (b 3)]] w fun e w' => e = .returned (.bool true) ∧ Below w.heap.size w w' := by
  have E := fun w => eq_c he w
  have hL := live_alloc (live_alloc (live_nil w) a) b
  simp only [World.size_alloc] at hL
  have Xhp := Lib.hid hp
  have Xhq := Lib.hid hq
  have Xhs := Lib.hid hs
  have Xhd := Lib.hid hd
  have Xhx := Lib.hid hx
  have Xhy := Lib.hid hy
  have Xhos := Lib.hid hos
  have Xhod := Lib.hid hod
  have Xhox := Lib.hid hox
  have Xhoy := Lib.hid hoy
  have Xhsp0 := Lib.hid hsp0
  have Xhsa0 := Lib.hid hsa0
  have Xhsb0 := Lib.hid hsb0
  have Xhc1 := Lib.hid hc1
  have Xhc2 := Lib.hid hc2
  have Xhe := Lib.hid he
  have Xho1 := Lib.hid ho1
  have Xho2 := Lib.hid ho2
  clear hp hq hs hd hx hy hos hod hox hoy hsp0 hsa0 hsb0 hc1 hc2 he ho1 ho2
  go_enter Try.func7, Try.ntmps7
  go_wp2_with fail
  obtain ⟨V0, hV0⟩ : ∃ V, (w.alloc (.cells #[.int .u64 (a 0), .int .u64 (a 1), .int .u64 (a 2), .int .u64 (a 3)] 24)).alloc (.cells #[.int .u64 (b 0), .int .u64 (b 1), .int .u64 (b 2), .int .u64 (b 3)] 24) = V := ⟨_, rfl⟩
  rw [hV0] at hL ⊢
  obtain ⟨Bb, hBb⟩ : ∃ B, w.heap.size + 1 = B := ⟨_, rfl⟩
  rw [hBb] at hL ⊢
  obtain ⟨Ba, hBa⟩ : ∃ B, w.heap.size = B := ⟨_, rfl⟩
  rw [hBa] at hL ⊢
  clear hV0 hBb hBa
  refine (mul_c ha ha Xhp.out Xho1.out _).mono ?_
  rintro e W2 ⟨rfl, hB⟩
  have hL2 := live_alloc (live_below hL hB) p
  clear hB hL
  have hL := hL2
  clear hL2
  have q3a := (live_get hL Bb b (by simp)).cell 0 (by omega)
  have q3b := (live_get hL Bb b (by simp)).cell 1 (by omega)
  have q3c := (live_get hL Bb b (by simp)).cell 2 (by omega)
  have q3d := (live_get hL Bb b (by simp)).cell 3 (by omega)
  go_wp2_with fail
  clear q3a q3b q3c q3d
  obtain ⟨B4, hBx⟩ : ∃ B, W2.heap.size = B := ⟨_, rfl⟩
  obtain ⟨V4, hVx⟩ : ∃ V, W2.alloc (.cells #[.int .u64 (p 0), .int .u64 (p 1), .int .u64 (p 2), .int .u64 (p 3)] 24) = V := ⟨_, rfl⟩
  rw [hBx, hVx] at hL
  rw [hBx, hVx]
  clear hBx hVx
  refine (mul_c hb hb Xhq.out Xho2.out _).mono ?_
  rintro e W5 ⟨rfl, hB⟩
  have hL2 := live_alloc (live_below hL hB) q
  clear hB hL
  have hL := hL2
  clear hL2
  have q6a := (live_get hL Ba a (by simp)).cell 0 (by omega)
  have q6b := (live_get hL Ba a (by simp)).cell 1 (by omega)
  have q6c := (live_get hL Ba a (by simp)).cell 2 (by omega)
  have q6d := (live_get hL Ba a (by simp)).cell 3 (by omega)
  have q7a := (live_get hL Bb b (by simp)).cell 0 (by omega)
  have q7b := (live_get hL Bb b (by simp)).cell 1 (by omega)
  have q7c := (live_get hL Bb b (by simp)).cell 2 (by omega)
  have q7d := (live_get hL Bb b (by simp)).cell 3 (by omega)
  go_wp2_with fail
  clear q6a q6b q6c q6d q7a q7b q7c q7d
  obtain ⟨B8, hBx⟩ : ∃ B, W5.heap.size = B := ⟨_, rfl⟩
  obtain ⟨V8, hVx⟩ : ∃ V, W5.alloc (.cells #[.int .u64 (q 0), .int .u64 (q 1), .int .u64 (q 2), .int .u64 (q 3)] 24) = V := ⟨_, rfl⟩
  rw [hBx, hVx] at hL
  rw [hBx, hVx]
  clear hBx hVx
  refine (add_c ha hb Xhs.out Xhos.out _).mono ?_
  rintro e W9 ⟨rfl, hB⟩
  have hL2 := live_alloc (live_below hL hB) s
  clear hB hL
  have hL := hL2
  clear hL2
  have q10a := (live_get hL Ba a (by simp)).cell 0 (by omega)
  have q10b := (live_get hL Ba a (by simp)).cell 1 (by omega)
  have q10c := (live_get hL Ba a (by simp)).cell 2 (by omega)
  have q10d := (live_get hL Ba a (by simp)).cell 3 (by omega)
  have q11a := (live_get hL Bb b (by simp)).cell 0 (by omega)
  have q11b := (live_get hL Bb b (by simp)).cell 1 (by omega)
  have q11c := (live_get hL Bb b (by simp)).cell 2 (by omega)
  have q11d := (live_get hL Bb b (by simp)).cell 3 (by omega)
  go_wp2_with fail
  clear q10a q10b q10c q10d q11a q11b q11c q11d
  obtain ⟨B12, hBx⟩ : ∃ B, W9.heap.size = B := ⟨_, rfl⟩
  obtain ⟨V12, hVx⟩ : ∃ V, W9.alloc (.cells #[.int .u64 (s 0), .int .u64 (s 1), .int .u64 (s 2), .int .u64 (s 3)] 24) = V := ⟨_, rfl⟩
  rw [hBx, hVx] at hL
  rw [hBx, hVx]
  clear hBx hVx
  refine (sub_c ha hb Xhd.out Xhod.out _).mono ?_
  rintro e W13 ⟨rfl, hB⟩
  have hL2 := live_alloc (live_below hL hB) d
  clear hB hL
  have hL := hL2
  clear hL2
  have q14a := (live_get hL B12 s (by simp)).cell 0 (by omega)
  have q14b := (live_get hL B12 s (by simp)).cell 1 (by omega)
  have q14c := (live_get hL B12 s (by simp)).cell 2 (by omega)
  have q14d := (live_get hL B12 s (by simp)).cell 3 (by omega)
  have q15a := (live_get hL W13.heap.size d (by simp)).cell 0 (by omega)
  have q15b := (live_get hL W13.heap.size d (by simp)).cell 1 (by omega)
  have q15c := (live_get hL W13.heap.size d (by simp)).cell 2 (by omega)
  have q15d := (live_get hL W13.heap.size d (by simp)).cell 3 (by omega)
  go_wp2_with fail
  clear q14a q14b q14c q14d q15a q15b q15c q15d
  obtain ⟨B16, hBx⟩ : ∃ B, W13.heap.size = B := ⟨_, rfl⟩
  obtain ⟨V16, hVx⟩ : ∃ V, W13.alloc (.cells #[.int .u64 (d 0), .int .u64 (d 1), .int .u64 (d 2), .int .u64 (d 3)] 24) = V := ⟨_, rfl⟩
  rw [hBx, hVx] at hL
  rw [hBx, hVx]
  clear hBx hVx
  refine (mul_c vs vd Xhx.out Xhox.out _).mono ?_
  rintro e W17 ⟨rfl, hB⟩
  have hL2 := live_alloc (live_below hL hB) x
  clear hB hL
  have hL := hL2
  clear hL2
  have q18a := (live_get hL B4 p (by simp)).cell 0 (by omega)
  have q18b := (live_get hL B4 p (by simp)).cell 1 (by omega)
  have q18c := (live_get hL B4 p (by simp)).cell 2 (by omega)
  have q18d := (live_get hL B4 p (by simp)).cell 3 (by omega)
  have q19a := (live_get hL B8 q (by simp)).cell 0 (by omega)
  have q19b := (live_get hL B8 q (by simp)).cell 1 (by omega)
  have q19c := (live_get hL B8 q (by simp)).cell 2 (by omega)
  have q19d := (live_get hL B8 q (by simp)).cell 3 (by omega)
  go_wp2_with fail
  clear q18a q18b q18c q18d q19a q19b q19c q19d
  obtain ⟨B20, hBx⟩ : ∃ B, W17.heap.size = B := ⟨_, rfl⟩
  obtain ⟨V20, hVx⟩ : ∃ V, W17.alloc (.cells #[.int .u64 (x 0), .int .u64 (x 1), .int .u64 (x 2), .int .u64 (x 3)] 24) = V := ⟨_, rfl⟩
  rw [hBx, hVx] at hL
  rw [hBx, hVx]
  clear hBx hVx
  refine (sub_c vp vq Xhy.out Xhoy.out _).mono ?_
  rintro e W21 ⟨rfl, hB⟩
  have hL2 := live_alloc (live_below hL hB) y
  clear hB hL
  have hL := hL2
  clear hL2
  go_wp2_with fail
  obtain ⟨B22, hBx⟩ : ∃ B, W21.heap.size = B := ⟨_, rfl⟩
  obtain ⟨V22, hVx⟩ : ∃ V, W21.alloc (.cells #[.int .u64 (y 0), .int .u64 (y 1), .int .u64 (y 2), .int .u64 (y 3)] 24) = V := ⟨_, rfl⟩
  rw [hBx, hVx] at hL
  rw [hBx, hVx]
  clear hBx hVx
  refine wp_region_held_drew (S := fun W' => Live w [(B22, y), (B20, x), (B16, d), (B12, s), (B8, q), (B4, p), (Bb, b), (Ba, a)] W') (by kernel_rfl) (live_drew hL) (fun hHeld => ?_)
  obtain ⟨D23, hW0⟩ : ∃ W0, V22.drew = W0 := ⟨_, rfl⟩
  rw [hW0] at hHeld ⊢
  clear hW0 hL
  refine wpAnyH_take (i := 0) (oi := { dst := some 53, op := Go.Op.move (Go.Operand.tmp 6), type := 4, pos := "law.go:146", after := #[], guard := none }) (v := ?_) rfl (by kernel_rfl) (by kernel_rfl) (by kernel_rfl) (fun _ _ _ h => h) (Or.inl ⟨by rfl, ?_⟩) (by assumption) ?_
  rotate_left
  · intro w hSw
    go_simp
    try with_reducible rfl
  try simp only [Act.put, List.setIfInBounds_toArray, List.set_cons_zero, List.set_cons_succ]
  refine wpAnyH_take (i := 1) (oi := { dst := some 54, op := Go.Op.unOp Go.UnOp.not 4 (Go.Operand.tmp 53), type := 4, pos := "law.go:146", after := #[{ on := 0, ground := Go.Ground.data }], guard := none }) (v := ?_) rfl (by kernel_rfl) (by kernel_rfl) (by kernel_rfl) (fun _ _ _ h => h) (Or.inl ⟨by rfl, ?_⟩) (by assumption) ?_
  rotate_left
  · intro w hSw
    go_simp
    try with_reducible rfl
  try simp only [Act.put, List.setIfInBounds_toArray, List.set_cons_zero, List.set_cons_succ]
  refine wpAnyH_take (i := 2) (oi := { dst := some 55, op := Go.Op.move (Go.Operand.tmp 54), type := 4, pos := "law.go:146", after := #[{ on := 1, ground := Go.Ground.data }], guard := none }) (v := ?_) rfl (by kernel_rfl) (by kernel_rfl) (by kernel_rfl) (fun _ _ _ h => h) (Or.inl ⟨by rfl, ?_⟩) (by assumption) ?_
  rotate_left
  · intro w hSw
    go_simp
    try with_reducible rfl
  try simp only [Act.put, List.setIfInBounds_toArray, List.set_cons_zero, List.set_cons_succ]
  refine wpAnyH_take (i := 3) (oi := { dst := some 56, op := Go.Op.load 24 (Go.Operand.tmp 5), type := 24, pos := "law.go:146", after := #[{ on := 2, ground := Go.Ground.guard }], guard := some (2, true) }) (v := undef) rfl (by kernel_rfl) (by kernel_rfl) (by kernel_rfl) (fun _ _ _ h => h) (Or.inr ⟨by rfl, rfl⟩) (by assumption) ?_
  try simp only [Act.put, List.setIfInBounds_toArray, List.set_cons_zero, List.set_cons_succ]
  refine wpAnyH_ready (rs := [4]) (by kernel_rfl) (by simp) ?_
  refine AllReadyH.cons (o := { dst := some 57, op := Go.Op.call { callee := Go.Callee.value (Go.Operand.func 25), args := #[Go.Operand.tmp 56], argTypes := #[24] }, type := 3, pos := "law.go:146", after := #[{ on := 3, ground := Go.Ground.data }, { on := 2, ground := Go.Ground.chain }, { on := 2, ground := Go.Ground.guard }], guard := some (2, true) }) rfl (fun K hK => ?_) AllReadyH.nil
  go_simp
  refine hK.out _ _ ?_ (fun hHeld2 => ?_)
  · exact hHeld
  clear hK K hHeld
  have hHeld := hHeld2
  clear hHeld2
  try simp only [Act.put, List.setIfInBounds_toArray, List.set_cons_zero, List.set_cons_succ]
  refine wpAnyH_take (i := 5) (oi := { dst := some 58, op := Go.Op.binOp Go.BinOp.lss 3 (Go.Operand.tmp 57) (Go.Operand.const (Go.Value.int Go.IntKind.i64 0)) 3, type := 4, pos := "law.go:146", after := #[{ on := 4, ground := Go.Ground.data }, { on := 2, ground := Go.Ground.guard }], guard := some (2, true) }) (v := undef) rfl (by kernel_rfl) (by kernel_rfl) (by kernel_rfl) (fun _ _ _ h => h) (Or.inr ⟨by rfl, rfl⟩) (by assumption) ?_
  try simp only [Act.put, List.setIfInBounds_toArray, List.set_cons_zero, List.set_cons_succ]
  refine wpAnyH_take (i := 6) (oi := { dst := some 59, op := Go.Op.pick (Go.Operand.tmp 55) (Go.Operand.tmp 58) (Go.Operand.const (Go.Value.bool false)), type := 4, pos := "law.go:146", after := #[{ on := 2, ground := Go.Ground.data }, { on := 5, ground := Go.Ground.data }], guard := none }) (v := ?_) rfl (by kernel_rfl) (by kernel_rfl) (by kernel_rfl) (fun _ _ _ h => h) (Or.inl ⟨by rfl, ?_⟩) (by assumption) ?_
  rotate_left
  · intro w hSw
    go_simp
    try with_reducible rfl
  try simp only [Act.put, List.setIfInBounds_toArray, List.set_cons_zero, List.set_cons_succ]
  refine wpAnyH_take (i := 7) (oi := { dst := some 60, op := Go.Op.move (Go.Operand.tmp 59), type := 4, pos := "law.go:146", after := #[{ on := 6, ground := Go.Ground.data }, { on := 4, ground := Go.Ground.chain }], guard := none }) (v := ?_) rfl (by kernel_rfl) (by kernel_rfl) (by kernel_rfl) (fun _ _ _ h => h) (Or.inl ⟨by rfl, ?_⟩) (by assumption) ?_
  rotate_left
  · intro w hSw
    go_simp
    try with_reducible rfl
  try simp only [Act.put, List.setIfInBounds_toArray, List.set_cons_zero, List.set_cons_succ]
  refine wpAnyH_take (i := 8) (oi := { dst := some 61, op := Go.Op.move (Go.Operand.tmp 6), type := 4, pos := "law.go:146", after := #[{ on := 7, ground := Go.Ground.guard }], guard := some (7, false) }) (v := ?_) rfl (by kernel_rfl) (by kernel_rfl) (by kernel_rfl) (fun _ _ _ h => h) (Or.inl ⟨by rfl, ?_⟩) (by assumption) ?_
  rotate_left
  · intro w hSw
    go_simp
    try with_reducible rfl
  try simp only [Act.put, List.setIfInBounds_toArray, List.set_cons_zero, List.set_cons_succ]
  refine wpAnyH_take (i := 9) (oi := { dst := some 62, op := Go.Op.unOp Go.UnOp.not 4 (Go.Operand.tmp 61), type := 4, pos := "law.go:146", after := #[{ on := 8, ground := Go.Ground.data }, { on := 7, ground := Go.Ground.guard }], guard := some (7, false) }) (v := ?_) rfl (by kernel_rfl) (by kernel_rfl) (by kernel_rfl) (fun _ _ _ h => h) (Or.inl ⟨by rfl, ?_⟩) (by assumption) ?_
  rotate_left
  · intro w hSw
    go_simp
    try with_reducible rfl
  try simp only [Act.put, List.setIfInBounds_toArray, List.set_cons_zero, List.set_cons_succ]
  refine wpAnyH_take (i := 10) (oi := { dst := some 63, op := Go.Op.move (Go.Operand.tmp 62), type := 4, pos := "law.go:146", after := #[{ on := 9, ground := Go.Ground.data }, { on := 7, ground := Go.Ground.chain }, { on := 7, ground := Go.Ground.guard }], guard := some (7, false) }) (v := ?_) rfl (by kernel_rfl) (by kernel_rfl) (by kernel_rfl) (fun _ _ _ h => h) (Or.inl ⟨by rfl, ?_⟩) (by assumption) ?_
  rotate_left
  · intro w hSw
    go_simp
    try with_reducible rfl
  try simp only [Act.put, List.setIfInBounds_toArray, List.set_cons_zero, List.set_cons_succ]
  refine wpAnyH_take (i := 11) (oi := { dst := some 64, op := Go.Op.move (Go.Operand.tmp 8), type := 4, pos := "law.go:146", after := #[{ on := 10, ground := Go.Ground.guard }], guard := some (10, true) }) (v := undef) rfl (by kernel_rfl) (by kernel_rfl) (by kernel_rfl) (fun _ _ _ h => h) (Or.inr ⟨by rfl, rfl⟩) (by assumption) ?_
  try simp only [Act.put, List.setIfInBounds_toArray, List.set_cons_zero, List.set_cons_succ]
  refine wpAnyH_take (i := 12) (oi := { dst := some 65, op := Go.Op.unOp Go.UnOp.not 4 (Go.Operand.tmp 64), type := 4, pos := "law.go:146", after := #[{ on := 11, ground := Go.Ground.data }, { on := 10, ground := Go.Ground.guard }], guard := some (10, true) }) (v := undef) rfl (by kernel_rfl) (by kernel_rfl) (by kernel_rfl) (fun _ _ _ h => h) (Or.inr ⟨by rfl, rfl⟩) (by assumption) ?_
  try simp only [Act.put, List.setIfInBounds_toArray, List.set_cons_zero, List.set_cons_succ]
  refine wpAnyH_take (i := 13) (oi := { dst := some 66, op := Go.Op.pick (Go.Operand.tmp 63) (Go.Operand.tmp 65) (Go.Operand.const (Go.Value.bool false)), type := 4, pos := "law.go:146", after := #[{ on := 10, ground := Go.Ground.data }, { on := 12, ground := Go.Ground.data }, { on := 7, ground := Go.Ground.guard }], guard := some (7, false) }) (v := ?_) rfl (by kernel_rfl) (by kernel_rfl) (by kernel_rfl) (fun _ _ _ h => h) (Or.inl ⟨by rfl, ?_⟩) (by assumption) ?_
  rotate_left
  · intro w hSw
    go_simp
    try with_reducible rfl
  try simp only [Act.put, List.setIfInBounds_toArray, List.set_cons_zero, List.set_cons_succ]
  refine wpAnyH_take (i := 14) (oi := { dst := some 67, op := Go.Op.move (Go.Operand.tmp 66), type := 4, pos := "law.go:146", after := #[{ on := 13, ground := Go.Ground.data }, { on := 10, ground := Go.Ground.chain }, { on := 7, ground := Go.Ground.guard }], guard := some (7, false) }) (v := ?_) rfl (by kernel_rfl) (by kernel_rfl) (by kernel_rfl) (fun _ _ _ h => h) (Or.inl ⟨by rfl, ?_⟩) (by assumption) ?_
  rotate_left
  · intro w hSw
    go_simp
    try with_reducible rfl
  try simp only [Act.put, List.setIfInBounds_toArray, List.set_cons_zero, List.set_cons_succ]
  refine wpAnyH_take (i := 15) (oi := { dst := some 68, op := Go.Op.load 24 (Go.Operand.tmp 2), type := 24, pos := "law.go:146", after := #[{ on := 14, ground := Go.Ground.guard }], guard := some (14, true) }) (v := undef) rfl (by kernel_rfl) (by kernel_rfl) (by kernel_rfl) (fun _ _ _ h => h) (Or.inr ⟨by rfl, rfl⟩) (by assumption) ?_
  try simp only [Act.put, List.setIfInBounds_toArray, List.set_cons_zero, List.set_cons_succ]
  refine wpAnyH_ready (rs := [16]) (by kernel_rfl) (by simp) ?_
  refine AllReadyH.cons (o := { dst := some 69, op := Go.Op.call { callee := Go.Callee.value (Go.Operand.func 25), args := #[Go.Operand.tmp 68], argTypes := #[24] }, type := 3, pos := "law.go:146", after := #[{ on := 15, ground := Go.Ground.data }, { on := 14, ground := Go.Ground.chain }, { on := 14, ground := Go.Ground.guard }], guard := some (14, true) }) rfl (fun K hK => ?_) AllReadyH.nil
  go_simp
  refine hK.out _ _ ?_ (fun hHeld2 => ?_)
  · exact hHeld
  clear hK K hHeld
  have hHeld := hHeld2
  clear hHeld2
  try simp only [Act.put, List.setIfInBounds_toArray, List.set_cons_zero, List.set_cons_succ]
  refine wpAnyH_take (i := 17) (oi := { dst := some 70, op := Go.Op.binOp Go.BinOp.geq 3 (Go.Operand.tmp 69) (Go.Operand.const (Go.Value.int Go.IntKind.i64 0)) 3, type := 4, pos := "law.go:146", after := #[{ on := 16, ground := Go.Ground.data }, { on := 14, ground := Go.Ground.guard }], guard := some (14, true) }) (v := undef) rfl (by kernel_rfl) (by kernel_rfl) (by kernel_rfl) (fun _ _ _ h => h) (Or.inr ⟨by rfl, rfl⟩) (by assumption) ?_
  try simp only [Act.put, List.setIfInBounds_toArray, List.set_cons_zero, List.set_cons_succ]
  refine wpAnyH_take (i := 18) (oi := { dst := some 71, op := Go.Op.pick (Go.Operand.tmp 67) (Go.Operand.tmp 70) (Go.Operand.const (Go.Value.bool false)), type := 4, pos := "law.go:146", after := #[{ on := 14, ground := Go.Ground.data }, { on := 17, ground := Go.Ground.data }, { on := 7, ground := Go.Ground.guard }], guard := some (7, false) }) (v := ?_) rfl (by kernel_rfl) (by kernel_rfl) (by kernel_rfl) (fun _ _ _ h => h) (Or.inl ⟨by rfl, ?_⟩) (by assumption) ?_
  rotate_left
  · intro w hSw
    go_simp
    try with_reducible rfl
  try simp only [Act.put, List.setIfInBounds_toArray, List.set_cons_zero, List.set_cons_succ]
  refine wpAnyH_take (i := 19) (oi := { dst := some 72, op := Go.Op.move (Go.Operand.tmp 71), type := 4, pos := "law.go:146", after := #[{ on := 18, ground := Go.Ground.data }, { on := 16, ground := Go.Ground.chain }, { on := 7, ground := Go.Ground.guard }], guard := some (7, false) }) (v := ?_) rfl (by kernel_rfl) (by kernel_rfl) (by kernel_rfl) (fun _ _ _ h => h) (Or.inl ⟨by rfl, ?_⟩) (by assumption) ?_
  rotate_left
  · intro w hSw
    go_simp
    try with_reducible rfl
  try simp only [Act.put, List.setIfInBounds_toArray, List.set_cons_zero, List.set_cons_succ]
  refine wpAnyH_take (i := 20) (oi := { dst := some 73, op := Go.Op.load 24 (Go.Operand.tmp 3), type := 24, pos := "law.go:146", after := #[{ on := 19, ground := Go.Ground.guard }], guard := some (19, true) }) (v := undef) rfl (by kernel_rfl) (by kernel_rfl) (by kernel_rfl) (fun _ _ _ h => h) (Or.inr ⟨by rfl, rfl⟩) (by assumption) ?_
  try simp only [Act.put, List.setIfInBounds_toArray, List.set_cons_zero, List.set_cons_succ]
  refine wpAnyH_ready (rs := [21]) (by kernel_rfl) (by simp) ?_
  refine AllReadyH.cons (o := { dst := some 74, op := Go.Op.call { callee := Go.Callee.value (Go.Operand.func 25), args := #[Go.Operand.tmp 73], argTypes := #[24] }, type := 3, pos := "law.go:146", after := #[{ on := 20, ground := Go.Ground.data }, { on := 19, ground := Go.Ground.chain }, { on := 19, ground := Go.Ground.guard }], guard := some (19, true) }) rfl (fun K hK => ?_) AllReadyH.nil
  go_simp
  refine hK.out _ _ ?_ (fun hHeld2 => ?_)
  · exact hHeld
  clear hK K hHeld
  have hHeld := hHeld2
  clear hHeld2
  try simp only [Act.put, List.setIfInBounds_toArray, List.set_cons_zero, List.set_cons_succ]
  refine wpAnyH_take (i := 22) (oi := { dst := some 75, op := Go.Op.binOp Go.BinOp.geq 3 (Go.Operand.tmp 74) (Go.Operand.const (Go.Value.int Go.IntKind.i64 0)) 3, type := 4, pos := "law.go:146", after := #[{ on := 21, ground := Go.Ground.data }, { on := 19, ground := Go.Ground.guard }], guard := some (19, true) }) (v := undef) rfl (by kernel_rfl) (by kernel_rfl) (by kernel_rfl) (fun _ _ _ h => h) (Or.inr ⟨by rfl, rfl⟩) (by assumption) ?_
  try simp only [Act.put, List.setIfInBounds_toArray, List.set_cons_zero, List.set_cons_succ]
  refine wpAnyH_take (i := 23) (oi := { dst := some 76, op := Go.Op.pick (Go.Operand.tmp 72) (Go.Operand.tmp 75) (Go.Operand.const (Go.Value.bool false)), type := 4, pos := "law.go:146", after := #[{ on := 19, ground := Go.Ground.data }, { on := 22, ground := Go.Ground.data }, { on := 7, ground := Go.Ground.guard }], guard := some (7, false) }) (v := ?_) rfl (by kernel_rfl) (by kernel_rfl) (by kernel_rfl) (fun _ _ _ h => h) (Or.inl ⟨by rfl, ?_⟩) (by assumption) ?_
  rotate_left
  · intro w hSw
    go_simp
    try with_reducible rfl
  try simp only [Act.put, List.setIfInBounds_toArray, List.set_cons_zero, List.set_cons_succ]
  refine wpAnyH_take (i := 24) (oi := { dst := some 77, op := Go.Op.move (Go.Operand.tmp 76), type := 4, pos := "law.go:146", after := #[{ on := 23, ground := Go.Ground.data }, { on := 21, ground := Go.Ground.chain }, { on := 7, ground := Go.Ground.guard }], guard := some (7, false) }) (v := ?_) rfl (by kernel_rfl) (by kernel_rfl) (by kernel_rfl) (fun _ _ _ h => h) (Or.inl ⟨by rfl, ?_⟩) (by assumption) ?_
  rotate_left
  · intro w hSw
    go_simp
    try with_reducible rfl
  try simp only [Act.put, List.setIfInBounds_toArray, List.set_cons_zero, List.set_cons_succ]
  refine wpAnyH_take (i := 25) (oi := { dst := some 78, op := Go.Op.load 24 (Go.Operand.tmp 5), type := 24, pos := "law.go:146", after := #[{ on := 24, ground := Go.Ground.guard }], guard := some (24, true) }) (v := undef) rfl (by kernel_rfl) (by kernel_rfl) (by kernel_rfl) (fun _ _ _ h => h) (Or.inr ⟨by rfl, rfl⟩) (by assumption) ?_
  try simp only [Act.put, List.setIfInBounds_toArray, List.set_cons_zero, List.set_cons_succ]
  refine wpAnyH_take (i := 26) (oi := { dst := some 79, op := Go.Op.load 24 (Go.Operand.tmp 7), type := 24, pos := "law.go:146", after := #[{ on := 24, ground := Go.Ground.guard }], guard := some (24, true) }) (v := undef) rfl (by kernel_rfl) (by kernel_rfl) (by kernel_rfl) (fun _ _ _ h => h) (Or.inr ⟨by rfl, rfl⟩) (by assumption) ?_
  try simp only [Act.put, List.setIfInBounds_toArray, List.set_cons_zero, List.set_cons_succ]
  refine wpAnyH_take (i := 28) (oi := { dst := some 81, op := Go.Op.load 24 (Go.Operand.tmp 2), type := 24, pos := "law.go:146", after := #[{ on := 24, ground := Go.Ground.guard }], guard := some (24, true) }) (v := undef) rfl (by kernel_rfl) (by kernel_rfl) (by kernel_rfl) (fun _ _ _ h => h) (Or.inr ⟨by rfl, rfl⟩) (by assumption) ?_
  try simp only [Act.put, List.setIfInBounds_toArray, List.set_cons_zero, List.set_cons_succ]
  refine wpAnyH_take (i := 29) (oi := { dst := some 82, op := Go.Op.load 24 (Go.Operand.tmp 3), type := 24, pos := "law.go:146", after := #[{ on := 24, ground := Go.Ground.guard }], guard := some (24, true) }) (v := undef) rfl (by kernel_rfl) (by kernel_rfl) (by kernel_rfl) (fun _ _ _ h => h) (Or.inr ⟨by rfl, rfl⟩) (by assumption) ?_
  try simp only [Act.put, List.setIfInBounds_toArray, List.set_cons_zero, List.set_cons_succ]
  refine wpAnyH_ready (rs := [27]) (by kernel_rfl) (by simp) ?_
  refine AllReadyH.cons (o := { dst := some 80, op := Go.Op.call { callee := Go.Callee.value (Go.Operand.func 23), args := #[Go.Operand.tmp 78, Go.Operand.tmp 79], argTypes := #[24, 24] }, type := 3, pos := "law.go:146", after := #[{ on := 25, ground := Go.Ground.data }, { on := 26, ground := Go.Ground.data }, { on := 24, ground := Go.Ground.chain }, { on := 24, ground := Go.Ground.guard }], guard := some (24, true) }) rfl (fun K hK => ?_) AllReadyH.nil
  go_simp
  refine hK.out _ _ ?_ (fun hHeld2 => ?_)
  · exact hHeld
  clear hK K hHeld
  have hHeld := hHeld2
  clear hHeld2
  try simp only [Act.put, List.setIfInBounds_toArray, List.set_cons_zero, List.set_cons_succ]
  refine wpAnyH_ready (rs := [30]) (by kernel_rfl) (by simp) ?_
  refine AllReadyH.cons (o := { dst := some 83, op := Go.Op.call { callee := Go.Callee.value (Go.Operand.func 23), args := #[Go.Operand.tmp 81, Go.Operand.tmp 82], argTypes := #[24, 24] }, type := 3, pos := "law.go:146", after := #[{ on := 28, ground := Go.Ground.data }, { on := 29, ground := Go.Ground.data }, { on := 27, ground := Go.Ground.chain }, { on := 24, ground := Go.Ground.guard }], guard := some (24, true) }) rfl (fun K hK => ?_) AllReadyH.nil
  go_simp
  refine hK.out _ _ ?_ (fun hHeld2 => ?_)
  · exact hHeld
  clear hK K hHeld
  have hHeld := hHeld2
  clear hHeld2
  try simp only [Act.put, List.setIfInBounds_toArray, List.set_cons_zero, List.set_cons_succ]
  refine wpAnyH_take (i := 31) (oi := { dst := some 84, op := Go.Op.binOp Go.BinOp.neq 3 (Go.Operand.tmp 80) (Go.Operand.tmp 83) 3, type := 4, pos := "law.go:146", after := #[{ on := 27, ground := Go.Ground.data }, { on := 30, ground := Go.Ground.data }, { on := 24, ground := Go.Ground.guard }], guard := some (24, true) }) (v := undef) rfl (by kernel_rfl) (by kernel_rfl) (by kernel_rfl) (fun _ _ _ h => h) (Or.inr ⟨by rfl, rfl⟩) (by assumption) ?_
  try simp only [Act.put, List.setIfInBounds_toArray, List.set_cons_zero, List.set_cons_succ]
  refine wpAnyH_take (i := 32) (oi := { dst := some 85, op := Go.Op.pick (Go.Operand.tmp 77) (Go.Operand.tmp 84) (Go.Operand.const (Go.Value.bool false)), type := 4, pos := "law.go:146", after := #[{ on := 24, ground := Go.Ground.data }, { on := 31, ground := Go.Ground.data }, { on := 7, ground := Go.Ground.guard }], guard := some (7, false) }) (v := ?_) rfl (by kernel_rfl) (by kernel_rfl) (by kernel_rfl) (fun _ _ _ h => h) (Or.inl ⟨by rfl, ?_⟩) (by assumption) ?_
  rotate_left
  · intro w hSw
    go_simp
    try with_reducible rfl
  try simp only [Act.put, List.setIfInBounds_toArray, List.set_cons_zero, List.set_cons_succ]
  refine wpAnyH_take (i := 33) (oi := { dst := some 86, op := Go.Op.pick (Go.Operand.tmp 60) (Go.Operand.const (Go.Value.bool true)) (Go.Operand.tmp 85), type := 4, pos := "law.go:146", after := #[{ on := 7, ground := Go.Ground.data }, { on := 32, ground := Go.Ground.data }], guard := none }) (v := ?_) rfl (by kernel_rfl) (by kernel_rfl) (by kernel_rfl) (fun _ _ _ h => h) (Or.inl ⟨by rfl, ?_⟩) (by assumption) ?_
  rotate_left
  · intro w hSw
    go_simp
    try with_reducible rfl
  try simp only [Act.put, List.setIfInBounds_toArray, List.set_cons_zero, List.set_cons_succ]
  refine wpAnyH_done (by kernel_rfl) ?_ _
  have hL := hHeld
  clear hHeld
  have q24a := (live_get hL B20 x (by simp)).cell 0 (by omega)
  have q24b := (live_get hL B20 x (by simp)).cell 1 (by omega)
  have q24c := (live_get hL B20 x (by simp)).cell 2 (by omega)
  have q24d := (live_get hL B20 x (by simp)).cell 3 (by omega)
  have q25a := (live_get hL B22 y (by simp)).cell 0 (by omega)
  have q25b := (live_get hL B22 y (by simp)).cell 1 (by omega)
  have q25c := (live_get hL B22 y (by simp)).cell 2 (by omega)
  have q25d := (live_get hL B22 y (by simp)).cell 3 (by omega)
  go_wp2_with fail
  clear q24a q24b q24c q24d q25a q25b q25c q25d
  refine (wakes_x _).mono ?_
  rintro e W26 ⟨rfl, hB⟩
  have hL2 := live_below hL hB
  clear hB hL
  have hL := hL2
  clear hL2
  go_wp2
  go_ret
  exact ⟨rfl, hL.2⟩

set_option maxRecDepth 100000 in
set_option maxHeartbeats 4000000 in
theorem sq_2 (a b p q s d x y : Nat → Nat) (o2 os od ox oy : Bool) (sp sa sb c1 c2 : Int) (ha : Wds a) (hb : Wds b) (vp : Wds p) (vq : Wds q) (vs : Wds s) (vd : Wds d)
    (hp : mulR a a = p) (hq : mulR b b = q) (hs : addR a b = s) (hd : subR a b = d) (hx : mulR s d = x) (hy : subR p q = y) (hos : addO a b = os) (hod : subO a b = od) (hox : mulO s d = ox) (hoy : subO p q = oy)
    (hsp0 : signI p = sp) (hsa0 : signI a = sa) (hsb0 : signI b = sb) (hc1 : cmpR p q = c1) (hc2 : cmpR a b = c2) (he : eqB x y = true)
    (ho1 : mulO a a = false) (ho2 : mulO b b = true) (hsp : decide (sp < 0) = false) (w : World) :
    Calls Try.prog 7 #[.agg #[.int .u64 (a 0), .int .u64 (a 1), .int .u64 (a 2), .int .u64 (a 3)], .agg #[.int .u64 (b 0), .int .u64 (b 1), .int .u64 (b 2), .int .u64 (b 3)]] w fun e w' => e = .returned (.bool true) ∧ Below w.heap.size w w' := by
  have E := fun w => eq_c he w
  have hL := live_alloc (live_alloc (live_nil w) a) b
  simp only [World.size_alloc] at hL
  have Xhp := Lib.hid hp
  have Xhq := Lib.hid hq
  have Xhs := Lib.hid hs
  have Xhd := Lib.hid hd
  have Xhx := Lib.hid hx
  have Xhy := Lib.hid hy
  have Xhos := Lib.hid hos
  have Xhod := Lib.hid hod
  have Xhox := Lib.hid hox
  have Xhoy := Lib.hid hoy
  have Xhsp0 := Lib.hid hsp0
  have Xhsa0 := Lib.hid hsa0
  have Xhsb0 := Lib.hid hsb0
  have Xhc1 := Lib.hid hc1
  have Xhc2 := Lib.hid hc2
  have Xhe := Lib.hid he
  have Xho1 := Lib.hid ho1
  have Xho2 := Lib.hid ho2
  clear hp hq hs hd hx hy hos hod hox hoy hsp0 hsa0 hsb0 hc1 hc2 he ho1 ho2
  go_enter Try.func7, Try.ntmps7
  go_wp2_with fail
  obtain ⟨V0, hV0⟩ : ∃ V, (w.alloc (.cells #[.int .u64 (a 0), .int .u64 (a 1), .int .u64 (a 2), .int .u64 (a 3)] 24)).alloc (.cells #[.int .u64 (b 0), .int .u64 (b 1), .int .u64 (b 2), .int .u64 (b 3)] 24) = V := ⟨_, rfl⟩
  rw [hV0] at hL ⊢
  obtain ⟨Bb, hBb⟩ : ∃ B, w.heap.size + 1 = B := ⟨_, rfl⟩
  rw [hBb] at hL ⊢
  obtain ⟨Ba, hBa⟩ : ∃ B, w.heap.size = B := ⟨_, rfl⟩
  rw [hBa] at hL ⊢
  clear hV0 hBb hBa
  refine (mul_c ha ha Xhp.out Xho1.out _).mono ?_
  rintro e W2 ⟨rfl, hB⟩
  have hL2 := live_alloc (live_below hL hB) p
  clear hB hL
  have hL := hL2
  clear hL2
  have q3a := (live_get hL Bb b (by simp)).cell 0 (by omega)
  have q3b := (live_get hL Bb b (by simp)).cell 1 (by omega)
  have q3c := (live_get hL Bb b (by simp)).cell 2 (by omega)
  have q3d := (live_get hL Bb b (by simp)).cell 3 (by omega)
  go_wp2_with fail
  clear q3a q3b q3c q3d
  obtain ⟨B4, hBx⟩ : ∃ B, W2.heap.size = B := ⟨_, rfl⟩
  obtain ⟨V4, hVx⟩ : ∃ V, W2.alloc (.cells #[.int .u64 (p 0), .int .u64 (p 1), .int .u64 (p 2), .int .u64 (p 3)] 24) = V := ⟨_, rfl⟩
  rw [hBx, hVx] at hL
  rw [hBx, hVx]
  clear hBx hVx
  refine (mul_c hb hb Xhq.out Xho2.out _).mono ?_
  rintro e W5 ⟨rfl, hB⟩
  have hL2 := live_alloc (live_below hL hB) q
  clear hB hL
  have hL := hL2
  clear hL2
  have q6a := (live_get hL Ba a (by simp)).cell 0 (by omega)
  have q6b := (live_get hL Ba a (by simp)).cell 1 (by omega)
  have q6c := (live_get hL Ba a (by simp)).cell 2 (by omega)
  have q6d := (live_get hL Ba a (by simp)).cell 3 (by omega)
  have q7a := (live_get hL Bb b (by simp)).cell 0 (by omega)
  have q7b := (live_get hL Bb b (by simp)).cell 1 (by omega)
  have q7c := (live_get hL Bb b (by simp)).cell 2 (by omega)
  have q7d := (live_get hL Bb b (by simp)).cell 3 (by omega)
  go_wp2_with fail
  clear q6a q6b q6c q6d q7a q7b q7c q7d
  obtain ⟨B8, hBx⟩ : ∃ B, W5.heap.size = B := ⟨_, rfl⟩
  obtain ⟨V8, hVx⟩ : ∃ V, W5.alloc (.cells #[.int .u64 (q 0), .int .u64 (q 1), .int .u64 (q 2), .int .u64 (q 3)] 24) = V := ⟨_, rfl⟩
  rw [hBx, hVx] at hL
  rw [hBx, hVx]
  clear hBx hVx
  refine (add_c ha hb Xhs.out Xhos.out _).mono ?_
  rintro e W9 ⟨rfl, hB⟩
  have hL2 := live_alloc (live_below hL hB) s
  clear hB hL
  have hL := hL2
  clear hL2
  have q10a := (live_get hL Ba a (by simp)).cell 0 (by omega)
  have q10b := (live_get hL Ba a (by simp)).cell 1 (by omega)
  have q10c := (live_get hL Ba a (by simp)).cell 2 (by omega)
  have q10d := (live_get hL Ba a (by simp)).cell 3 (by omega)
  have q11a := (live_get hL Bb b (by simp)).cell 0 (by omega)
  have q11b := (live_get hL Bb b (by simp)).cell 1 (by omega)
  have q11c := (live_get hL Bb b (by simp)).cell 2 (by omega)
  have q11d := (live_get hL Bb b (by simp)).cell 3 (by omega)
  go_wp2_with fail
  clear q10a q10b q10c q10d q11a q11b q11c q11d
  obtain ⟨B12, hBx⟩ : ∃ B, W9.heap.size = B := ⟨_, rfl⟩
  obtain ⟨V12, hVx⟩ : ∃ V, W9.alloc (.cells #[.int .u64 (s 0), .int .u64 (s 1), .int .u64 (s 2), .int .u64 (s 3)] 24) = V := ⟨_, rfl⟩
  rw [hBx, hVx] at hL
  rw [hBx, hVx]
  clear hBx hVx
  refine (sub_c ha hb Xhd.out Xhod.out _).mono ?_
  rintro e W13 ⟨rfl, hB⟩
  have hL2 := live_alloc (live_below hL hB) d
  clear hB hL
  have hL := hL2
  clear hL2
  have q14a := (live_get hL B12 s (by simp)).cell 0 (by omega)
  have q14b := (live_get hL B12 s (by simp)).cell 1 (by omega)
  have q14c := (live_get hL B12 s (by simp)).cell 2 (by omega)
  have q14d := (live_get hL B12 s (by simp)).cell 3 (by omega)
  have q15a := (live_get hL W13.heap.size d (by simp)).cell 0 (by omega)
  have q15b := (live_get hL W13.heap.size d (by simp)).cell 1 (by omega)
  have q15c := (live_get hL W13.heap.size d (by simp)).cell 2 (by omega)
  have q15d := (live_get hL W13.heap.size d (by simp)).cell 3 (by omega)
  go_wp2_with fail
  clear q14a q14b q14c q14d q15a q15b q15c q15d
  obtain ⟨B16, hBx⟩ : ∃ B, W13.heap.size = B := ⟨_, rfl⟩
  obtain ⟨V16, hVx⟩ : ∃ V, W13.alloc (.cells #[.int .u64 (d 0), .int .u64 (d 1), .int .u64 (d 2), .int .u64 (d 3)] 24) = V := ⟨_, rfl⟩
  rw [hBx, hVx] at hL
  rw [hBx, hVx]
  clear hBx hVx
  refine (mul_c vs vd Xhx.out Xhox.out _).mono ?_
  rintro e W17 ⟨rfl, hB⟩
  have hL2 := live_alloc (live_below hL hB) x
  clear hB hL
  have hL := hL2
  clear hL2
  have q18a := (live_get hL B4 p (by simp)).cell 0 (by omega)
  have q18b := (live_get hL B4 p (by simp)).cell 1 (by omega)
  have q18c := (live_get hL B4 p (by simp)).cell 2 (by omega)
  have q18d := (live_get hL B4 p (by simp)).cell 3 (by omega)
  have q19a := (live_get hL B8 q (by simp)).cell 0 (by omega)
  have q19b := (live_get hL B8 q (by simp)).cell 1 (by omega)
  have q19c := (live_get hL B8 q (by simp)).cell 2 (by omega)
  have q19d := (live_get hL B8 q (by simp)).cell 3 (by omega)
  go_wp2_with fail
  clear q18a q18b q18c q18d q19a q19b q19c q19d
  obtain ⟨B20, hBx⟩ : ∃ B, W17.heap.size = B := ⟨_, rfl⟩
  obtain ⟨V20, hVx⟩ : ∃ V, W17.alloc (.cells #[.int .u64 (x 0), .int .u64 (x 1), .int .u64 (x 2), .int .u64 (x 3)] 24) = V := ⟨_, rfl⟩
  rw [hBx, hVx] at hL
  rw [hBx, hVx]
  clear hBx hVx
  refine (sub_c vp vq Xhy.out Xhoy.out _).mono ?_
  rintro e W21 ⟨rfl, hB⟩
  have hL2 := live_alloc (live_below hL hB) y
  clear hB hL
  have hL := hL2
  clear hL2
  go_wp2_with fail
  obtain ⟨B22, hBx⟩ : ∃ B, W21.heap.size = B := ⟨_, rfl⟩
  obtain ⟨V22, hVx⟩ : ∃ V, W21.alloc (.cells #[.int .u64 (y 0), .int .u64 (y 1), .int .u64 (y 2), .int .u64 (y 3)] 24) = V := ⟨_, rfl⟩
  rw [hBx, hVx] at hL
  rw [hBx, hVx]
  clear hBx hVx
  refine wp_region_held_drew (S := fun W' => Live w [(B22, y), (B20, x), (B16, d), (B12, s), (B8, q), (B4, p), (Bb, b), (Ba, a)] W') (by kernel_rfl) (live_drew hL) (fun hHeld => ?_)
  obtain ⟨D23, hW0⟩ : ∃ W0, V22.drew = W0 := ⟨_, rfl⟩
  rw [hW0] at hHeld ⊢
  clear hW0 hL
  refine wpAnyH_take (i := 0) (oi := { dst := some 53, op := Go.Op.move (Go.Operand.tmp 6), type := 4, pos := "law.go:146", after := #[], guard := none }) (v := ?_) rfl (by kernel_rfl) (by kernel_rfl) (by kernel_rfl) (fun _ _ _ h => h) (Or.inl ⟨by rfl, ?_⟩) (by assumption) ?_
  rotate_left
  · intro w hSw
    go_simp
    try with_reducible rfl
  try simp only [Act.put, List.setIfInBounds_toArray, List.set_cons_zero, List.set_cons_succ]
  refine wpAnyH_take (i := 1) (oi := { dst := some 54, op := Go.Op.unOp Go.UnOp.not 4 (Go.Operand.tmp 53), type := 4, pos := "law.go:146", after := #[{ on := 0, ground := Go.Ground.data }], guard := none }) (v := ?_) rfl (by kernel_rfl) (by kernel_rfl) (by kernel_rfl) (fun _ _ _ h => h) (Or.inl ⟨by rfl, ?_⟩) (by assumption) ?_
  rotate_left
  · intro w hSw
    go_simp
    try with_reducible rfl
  try simp only [Act.put, List.setIfInBounds_toArray, List.set_cons_zero, List.set_cons_succ]
  refine wpAnyH_take (i := 2) (oi := { dst := some 55, op := Go.Op.move (Go.Operand.tmp 54), type := 4, pos := "law.go:146", after := #[{ on := 1, ground := Go.Ground.data }], guard := none }) (v := ?_) rfl (by kernel_rfl) (by kernel_rfl) (by kernel_rfl) (fun _ _ _ h => h) (Or.inl ⟨by rfl, ?_⟩) (by assumption) ?_
  rotate_left
  · intro w hSw
    go_simp
    try with_reducible rfl
  try simp only [Act.put, List.setIfInBounds_toArray, List.set_cons_zero, List.set_cons_succ]
  refine wpAnyH_take (i := 3) (oi := { dst := some 56, op := Go.Op.load 24 (Go.Operand.tmp 5), type := 24, pos := "law.go:146", after := #[{ on := 2, ground := Go.Ground.guard }], guard := some (2, true) }) (v := ?_) rfl (by kernel_rfl) (by kernel_rfl) (by kernel_rfl) (fun _ _ _ h => h) (Or.inl ⟨by rfl, ?_⟩) (by assumption) ?_
  rotate_left
  · intro w hSw
    have k0 := (live_get hSw B4 p (by simp)).cell 0 (by omega)
    have k1 := (live_get hSw B4 p (by simp)).cell 1 (by omega)
    have k2 := (live_get hSw B4 p (by simp)).cell 2 (by omega)
    have k3 := (live_get hSw B4 p (by simp)).cell 3 (by omega)
    go_simp
    try with_reducible rfl
  try simp only [Act.put, List.setIfInBounds_toArray, List.set_cons_zero, List.set_cons_succ]
  refine wpAnyH_ready (rs := [4]) (by kernel_rfl) (by simp) ?_
  refine AllReadyH.cons (o := { dst := some 57, op := Go.Op.call { callee := Go.Callee.value (Go.Operand.func 25), args := #[Go.Operand.tmp 56], argTypes := #[24] }, type := 3, pos := "law.go:146", after := #[{ on := 3, ground := Go.Ground.data }, { on := 2, ground := Go.Ground.chain }, { on := 2, ground := Go.Ground.guard }], guard := some (2, true) }) rfl (fun K hK => ?_) AllReadyH.nil
  go_simp
  refine (sign_c vp Xhsp0.out _).mono ?_
  rintro e W24 ⟨rfl, hBl⟩
  refine hK.out _ _ ?_ (fun hHeld2 => ?_)
  · exact live_below hHeld hBl
  clear hK K hHeld
  have hHeld := hHeld2
  clear hHeld2
  try simp only [Act.put, List.setIfInBounds_toArray, List.set_cons_zero, List.set_cons_succ]
  refine wpAnyH_take (i := 5) (oi := { dst := some 58, op := Go.Op.binOp Go.BinOp.lss 3 (Go.Operand.tmp 57) (Go.Operand.const (Go.Value.int Go.IntKind.i64 0)) 3, type := 4, pos := "law.go:146", after := #[{ on := 4, ground := Go.Ground.data }, { on := 2, ground := Go.Ground.guard }], guard := some (2, true) }) (v := ?_) rfl (by kernel_rfl) (by kernel_rfl) (by kernel_rfl) (fun _ _ _ h => h) (Or.inl ⟨by rfl, ?_⟩) (by assumption) ?_
  rotate_left
  · intro w hSw
    go_simp
    try with_reducible rfl
  try simp only [Act.put, List.setIfInBounds_toArray, List.set_cons_zero, List.set_cons_succ]
  refine wpAnyH_take (i := 6) (oi := { dst := some 59, op := Go.Op.pick (Go.Operand.tmp 55) (Go.Operand.tmp 58) (Go.Operand.const (Go.Value.bool false)), type := 4, pos := "law.go:146", after := #[{ on := 2, ground := Go.Ground.data }, { on := 5, ground := Go.Ground.data }], guard := none }) (v := ?_) rfl (by kernel_rfl) (by kernel_rfl) (by kernel_rfl) (fun _ _ _ h => h) (Or.inl ⟨by rfl, ?_⟩) (by assumption) ?_
  rotate_left
  · intro w hSw
    go_simp
    try with_reducible rfl
  try simp only [Act.put, List.setIfInBounds_toArray, List.set_cons_zero, List.set_cons_succ]
  refine wpAnyH_take (i := 7) (oi := { dst := some 60, op := Go.Op.move (Go.Operand.tmp 59), type := 4, pos := "law.go:146", after := #[{ on := 6, ground := Go.Ground.data }, { on := 4, ground := Go.Ground.chain }], guard := none }) (v := ?_) rfl (by kernel_rfl) (by kernel_rfl) (by kernel_rfl) (fun _ _ _ h => h) (Or.inl ⟨by rfl, ?_⟩) (by assumption) ?_
  rotate_left
  · intro w hSw
    go_simp
    try with_reducible rfl
  try simp only [Act.put, List.setIfInBounds_toArray, List.set_cons_zero, List.set_cons_succ]
  refine wpAnyH_take (i := 8) (oi := { dst := some 61, op := Go.Op.move (Go.Operand.tmp 6), type := 4, pos := "law.go:146", after := #[{ on := 7, ground := Go.Ground.guard }], guard := some (7, false) }) (v := ?_) rfl (by kernel_rfl) (by kernel_rfl) (by kernel_rfl) (fun _ _ _ h => h) (Or.inl ⟨by rfl, ?_⟩) (by assumption) ?_
  rotate_left
  · intro w hSw
    go_simp
    try with_reducible rfl
  try simp only [Act.put, List.setIfInBounds_toArray, List.set_cons_zero, List.set_cons_succ]
  refine wpAnyH_take (i := 9) (oi := { dst := some 62, op := Go.Op.unOp Go.UnOp.not 4 (Go.Operand.tmp 61), type := 4, pos := "law.go:146", after := #[{ on := 8, ground := Go.Ground.data }, { on := 7, ground := Go.Ground.guard }], guard := some (7, false) }) (v := ?_) rfl (by kernel_rfl) (by kernel_rfl) (by kernel_rfl) (fun _ _ _ h => h) (Or.inl ⟨by rfl, ?_⟩) (by assumption) ?_
  rotate_left
  · intro w hSw
    go_simp
    try with_reducible rfl
  try simp only [Act.put, List.setIfInBounds_toArray, List.set_cons_zero, List.set_cons_succ]
  refine wpAnyH_take (i := 10) (oi := { dst := some 63, op := Go.Op.move (Go.Operand.tmp 62), type := 4, pos := "law.go:146", after := #[{ on := 9, ground := Go.Ground.data }, { on := 7, ground := Go.Ground.chain }, { on := 7, ground := Go.Ground.guard }], guard := some (7, false) }) (v := ?_) rfl (by kernel_rfl) (by kernel_rfl) (by kernel_rfl) (fun _ _ _ h => h) (Or.inl ⟨by rfl, ?_⟩) (by assumption) ?_
  rotate_left
  · intro w hSw
    go_simp
    try with_reducible rfl
  try simp only [Act.put, List.setIfInBounds_toArray, List.set_cons_zero, List.set_cons_succ]
  refine wpAnyH_take (i := 11) (oi := { dst := some 64, op := Go.Op.move (Go.Operand.tmp 8), type := 4, pos := "law.go:146", after := #[{ on := 10, ground := Go.Ground.guard }], guard := some (10, true) }) (v := ?_) rfl (by kernel_rfl) (by kernel_rfl) (by kernel_rfl) (fun _ _ _ h => h) (Or.inl ⟨by rfl, ?_⟩) (by assumption) ?_
  rotate_left
  · intro w hSw
    go_simp
    try with_reducible rfl
  try simp only [Act.put, List.setIfInBounds_toArray, List.set_cons_zero, List.set_cons_succ]
  refine wpAnyH_take (i := 12) (oi := { dst := some 65, op := Go.Op.unOp Go.UnOp.not 4 (Go.Operand.tmp 64), type := 4, pos := "law.go:146", after := #[{ on := 11, ground := Go.Ground.data }, { on := 10, ground := Go.Ground.guard }], guard := some (10, true) }) (v := ?_) rfl (by kernel_rfl) (by kernel_rfl) (by kernel_rfl) (fun _ _ _ h => h) (Or.inl ⟨by rfl, ?_⟩) (by assumption) ?_
  rotate_left
  · intro w hSw
    go_simp
    try with_reducible rfl
  try simp only [Act.put, List.setIfInBounds_toArray, List.set_cons_zero, List.set_cons_succ]
  refine wpAnyH_take (i := 13) (oi := { dst := some 66, op := Go.Op.pick (Go.Operand.tmp 63) (Go.Operand.tmp 65) (Go.Operand.const (Go.Value.bool false)), type := 4, pos := "law.go:146", after := #[{ on := 10, ground := Go.Ground.data }, { on := 12, ground := Go.Ground.data }, { on := 7, ground := Go.Ground.guard }], guard := some (7, false) }) (v := ?_) rfl (by kernel_rfl) (by kernel_rfl) (by kernel_rfl) (fun _ _ _ h => h) (Or.inl ⟨by rfl, ?_⟩) (by assumption) ?_
  rotate_left
  · intro w hSw
    go_simp
    try with_reducible rfl
  try simp only [Act.put, List.setIfInBounds_toArray, List.set_cons_zero, List.set_cons_succ]
  refine wpAnyH_take (i := 14) (oi := { dst := some 67, op := Go.Op.move (Go.Operand.tmp 66), type := 4, pos := "law.go:146", after := #[{ on := 13, ground := Go.Ground.data }, { on := 10, ground := Go.Ground.chain }, { on := 7, ground := Go.Ground.guard }], guard := some (7, false) }) (v := ?_) rfl (by kernel_rfl) (by kernel_rfl) (by kernel_rfl) (fun _ _ _ h => h) (Or.inl ⟨by rfl, ?_⟩) (by assumption) ?_
  rotate_left
  · intro w hSw
    go_simp
    try with_reducible rfl
  try simp only [Act.put, List.setIfInBounds_toArray, List.set_cons_zero, List.set_cons_succ]
  refine wpAnyH_take (i := 15) (oi := { dst := some 68, op := Go.Op.load 24 (Go.Operand.tmp 2), type := 24, pos := "law.go:146", after := #[{ on := 14, ground := Go.Ground.guard }], guard := some (14, true) }) (v := undef) rfl (by kernel_rfl) (by kernel_rfl) (by kernel_rfl) (fun _ _ _ h => h) (Or.inr ⟨by rfl, rfl⟩) (by assumption) ?_
  try simp only [Act.put, List.setIfInBounds_toArray, List.set_cons_zero, List.set_cons_succ]
  refine wpAnyH_ready (rs := [16]) (by kernel_rfl) (by simp) ?_
  refine AllReadyH.cons (o := { dst := some 69, op := Go.Op.call { callee := Go.Callee.value (Go.Operand.func 25), args := #[Go.Operand.tmp 68], argTypes := #[24] }, type := 3, pos := "law.go:146", after := #[{ on := 15, ground := Go.Ground.data }, { on := 14, ground := Go.Ground.chain }, { on := 14, ground := Go.Ground.guard }], guard := some (14, true) }) rfl (fun K hK => ?_) AllReadyH.nil
  go_simp
  refine hK.out _ _ ?_ (fun hHeld2 => ?_)
  · exact hHeld
  clear hK K hHeld
  have hHeld := hHeld2
  clear hHeld2
  try simp only [Act.put, List.setIfInBounds_toArray, List.set_cons_zero, List.set_cons_succ]
  refine wpAnyH_take (i := 17) (oi := { dst := some 70, op := Go.Op.binOp Go.BinOp.geq 3 (Go.Operand.tmp 69) (Go.Operand.const (Go.Value.int Go.IntKind.i64 0)) 3, type := 4, pos := "law.go:146", after := #[{ on := 16, ground := Go.Ground.data }, { on := 14, ground := Go.Ground.guard }], guard := some (14, true) }) (v := undef) rfl (by kernel_rfl) (by kernel_rfl) (by kernel_rfl) (fun _ _ _ h => h) (Or.inr ⟨by rfl, rfl⟩) (by assumption) ?_
  try simp only [Act.put, List.setIfInBounds_toArray, List.set_cons_zero, List.set_cons_succ]
  refine wpAnyH_take (i := 18) (oi := { dst := some 71, op := Go.Op.pick (Go.Operand.tmp 67) (Go.Operand.tmp 70) (Go.Operand.const (Go.Value.bool false)), type := 4, pos := "law.go:146", after := #[{ on := 14, ground := Go.Ground.data }, { on := 17, ground := Go.Ground.data }, { on := 7, ground := Go.Ground.guard }], guard := some (7, false) }) (v := ?_) rfl (by kernel_rfl) (by kernel_rfl) (by kernel_rfl) (fun _ _ _ h => h) (Or.inl ⟨by rfl, ?_⟩) (by assumption) ?_
  rotate_left
  · intro w hSw
    go_simp
    try with_reducible rfl
  try simp only [Act.put, List.setIfInBounds_toArray, List.set_cons_zero, List.set_cons_succ]
  refine wpAnyH_take (i := 19) (oi := { dst := some 72, op := Go.Op.move (Go.Operand.tmp 71), type := 4, pos := "law.go:146", after := #[{ on := 18, ground := Go.Ground.data }, { on := 16, ground := Go.Ground.chain }, { on := 7, ground := Go.Ground.guard }], guard := some (7, false) }) (v := ?_) rfl (by kernel_rfl) (by kernel_rfl) (by kernel_rfl) (fun _ _ _ h => h) (Or.inl ⟨by rfl, ?_⟩) (by assumption) ?_
  rotate_left
  · intro w hSw
    go_simp
    try with_reducible rfl
  try simp only [Act.put, List.setIfInBounds_toArray, List.set_cons_zero, List.set_cons_succ]
  refine wpAnyH_take (i := 20) (oi := { dst := some 73, op := Go.Op.load 24 (Go.Operand.tmp 3), type := 24, pos := "law.go:146", after := #[{ on := 19, ground := Go.Ground.guard }], guard := some (19, true) }) (v := undef) rfl (by kernel_rfl) (by kernel_rfl) (by kernel_rfl) (fun _ _ _ h => h) (Or.inr ⟨by rfl, rfl⟩) (by assumption) ?_
  try simp only [Act.put, List.setIfInBounds_toArray, List.set_cons_zero, List.set_cons_succ]
  refine wpAnyH_ready (rs := [21]) (by kernel_rfl) (by simp) ?_
  refine AllReadyH.cons (o := { dst := some 74, op := Go.Op.call { callee := Go.Callee.value (Go.Operand.func 25), args := #[Go.Operand.tmp 73], argTypes := #[24] }, type := 3, pos := "law.go:146", after := #[{ on := 20, ground := Go.Ground.data }, { on := 19, ground := Go.Ground.chain }, { on := 19, ground := Go.Ground.guard }], guard := some (19, true) }) rfl (fun K hK => ?_) AllReadyH.nil
  go_simp
  refine hK.out _ _ ?_ (fun hHeld2 => ?_)
  · exact hHeld
  clear hK K hHeld
  have hHeld := hHeld2
  clear hHeld2
  try simp only [Act.put, List.setIfInBounds_toArray, List.set_cons_zero, List.set_cons_succ]
  refine wpAnyH_take (i := 22) (oi := { dst := some 75, op := Go.Op.binOp Go.BinOp.geq 3 (Go.Operand.tmp 74) (Go.Operand.const (Go.Value.int Go.IntKind.i64 0)) 3, type := 4, pos := "law.go:146", after := #[{ on := 21, ground := Go.Ground.data }, { on := 19, ground := Go.Ground.guard }], guard := some (19, true) }) (v := undef) rfl (by kernel_rfl) (by kernel_rfl) (by kernel_rfl) (fun _ _ _ h => h) (Or.inr ⟨by rfl, rfl⟩) (by assumption) ?_
  try simp only [Act.put, List.setIfInBounds_toArray, List.set_cons_zero, List.set_cons_succ]
  refine wpAnyH_take (i := 23) (oi := { dst := some 76, op := Go.Op.pick (Go.Operand.tmp 72) (Go.Operand.tmp 75) (Go.Operand.const (Go.Value.bool false)), type := 4, pos := "law.go:146", after := #[{ on := 19, ground := Go.Ground.data }, { on := 22, ground := Go.Ground.data }, { on := 7, ground := Go.Ground.guard }], guard := some (7, false) }) (v := ?_) rfl (by kernel_rfl) (by kernel_rfl) (by kernel_rfl) (fun _ _ _ h => h) (Or.inl ⟨by rfl, ?_⟩) (by assumption) ?_
  rotate_left
  · intro w hSw
    go_simp
    try with_reducible rfl
  try simp only [Act.put, List.setIfInBounds_toArray, List.set_cons_zero, List.set_cons_succ]
  refine wpAnyH_take (i := 24) (oi := { dst := some 77, op := Go.Op.move (Go.Operand.tmp 76), type := 4, pos := "law.go:146", after := #[{ on := 23, ground := Go.Ground.data }, { on := 21, ground := Go.Ground.chain }, { on := 7, ground := Go.Ground.guard }], guard := some (7, false) }) (v := ?_) rfl (by kernel_rfl) (by kernel_rfl) (by kernel_rfl) (fun _ _ _ h => h) (Or.inl ⟨by rfl, ?_⟩) (by assumption) ?_
  rotate_left
  · intro w hSw
    go_simp
    try with_reducible rfl
  try simp only [Act.put, List.setIfInBounds_toArray, List.set_cons_zero, List.set_cons_succ]
  refine wpAnyH_take (i := 25) (oi := { dst := some 78, op := Go.Op.load 24 (Go.Operand.tmp 5), type := 24, pos := "law.go:146", after := #[{ on := 24, ground := Go.Ground.guard }], guard := some (24, true) }) (v := undef) rfl (by kernel_rfl) (by kernel_rfl) (by kernel_rfl) (fun _ _ _ h => h) (Or.inr ⟨by rfl, rfl⟩) (by assumption) ?_
  try simp only [Act.put, List.setIfInBounds_toArray, List.set_cons_zero, List.set_cons_succ]
  refine wpAnyH_take (i := 26) (oi := { dst := some 79, op := Go.Op.load 24 (Go.Operand.tmp 7), type := 24, pos := "law.go:146", after := #[{ on := 24, ground := Go.Ground.guard }], guard := some (24, true) }) (v := undef) rfl (by kernel_rfl) (by kernel_rfl) (by kernel_rfl) (fun _ _ _ h => h) (Or.inr ⟨by rfl, rfl⟩) (by assumption) ?_
  try simp only [Act.put, List.setIfInBounds_toArray, List.set_cons_zero, List.set_cons_succ]
  refine wpAnyH_take (i := 28) (oi := { dst := some 81, op := Go.Op.load 24 (Go.Operand.tmp 2), type := 24, pos := "law.go:146", after := #[{ on := 24, ground := Go.Ground.guard }], guard := some (24, true) }) (v := undef) rfl (by kernel_rfl) (by kernel_rfl) (by kernel_rfl) (fun _ _ _ h => h) (Or.inr ⟨by rfl, rfl⟩) (by assumption) ?_
  try simp only [Act.put, List.setIfInBounds_toArray, List.set_cons_zero, List.set_cons_succ]
  refine wpAnyH_take (i := 29) (oi := { dst := some 82, op := Go.Op.load 24 (Go.Operand.tmp 3), type := 24, pos := "law.go:146", after := #[{ on := 24, ground := Go.Ground.guard }], guard := some (24, true) }) (v := undef) rfl (by kernel_rfl) (by kernel_rfl) (by kernel_rfl) (fun _ _ _ h => h) (Or.inr ⟨by rfl, rfl⟩) (by assumption) ?_
  try simp only [Act.put, List.setIfInBounds_toArray, List.set_cons_zero, List.set_cons_succ]
  refine wpAnyH_ready (rs := [27]) (by kernel_rfl) (by simp) ?_
  refine AllReadyH.cons (o := { dst := some 80, op := Go.Op.call { callee := Go.Callee.value (Go.Operand.func 23), args := #[Go.Operand.tmp 78, Go.Operand.tmp 79], argTypes := #[24, 24] }, type := 3, pos := "law.go:146", after := #[{ on := 25, ground := Go.Ground.data }, { on := 26, ground := Go.Ground.data }, { on := 24, ground := Go.Ground.chain }, { on := 24, ground := Go.Ground.guard }], guard := some (24, true) }) rfl (fun K hK => ?_) AllReadyH.nil
  go_simp
  refine hK.out _ _ ?_ (fun hHeld2 => ?_)
  · exact hHeld
  clear hK K hHeld
  have hHeld := hHeld2
  clear hHeld2
  try simp only [Act.put, List.setIfInBounds_toArray, List.set_cons_zero, List.set_cons_succ]
  refine wpAnyH_ready (rs := [30]) (by kernel_rfl) (by simp) ?_
  refine AllReadyH.cons (o := { dst := some 83, op := Go.Op.call { callee := Go.Callee.value (Go.Operand.func 23), args := #[Go.Operand.tmp 81, Go.Operand.tmp 82], argTypes := #[24, 24] }, type := 3, pos := "law.go:146", after := #[{ on := 28, ground := Go.Ground.data }, { on := 29, ground := Go.Ground.data }, { on := 27, ground := Go.Ground.chain }, { on := 24, ground := Go.Ground.guard }], guard := some (24, true) }) rfl (fun K hK => ?_) AllReadyH.nil
  go_simp
  refine hK.out _ _ ?_ (fun hHeld2 => ?_)
  · exact hHeld
  clear hK K hHeld
  have hHeld := hHeld2
  clear hHeld2
  try simp only [Act.put, List.setIfInBounds_toArray, List.set_cons_zero, List.set_cons_succ]
  refine wpAnyH_take (i := 31) (oi := { dst := some 84, op := Go.Op.binOp Go.BinOp.neq 3 (Go.Operand.tmp 80) (Go.Operand.tmp 83) 3, type := 4, pos := "law.go:146", after := #[{ on := 27, ground := Go.Ground.data }, { on := 30, ground := Go.Ground.data }, { on := 24, ground := Go.Ground.guard }], guard := some (24, true) }) (v := undef) rfl (by kernel_rfl) (by kernel_rfl) (by kernel_rfl) (fun _ _ _ h => h) (Or.inr ⟨by rfl, rfl⟩) (by assumption) ?_
  try simp only [Act.put, List.setIfInBounds_toArray, List.set_cons_zero, List.set_cons_succ]
  refine wpAnyH_take (i := 32) (oi := { dst := some 85, op := Go.Op.pick (Go.Operand.tmp 77) (Go.Operand.tmp 84) (Go.Operand.const (Go.Value.bool false)), type := 4, pos := "law.go:146", after := #[{ on := 24, ground := Go.Ground.data }, { on := 31, ground := Go.Ground.data }, { on := 7, ground := Go.Ground.guard }], guard := some (7, false) }) (v := ?_) rfl (by kernel_rfl) (by kernel_rfl) (by kernel_rfl) (fun _ _ _ h => h) (Or.inl ⟨by rfl, ?_⟩) (by assumption) ?_
  rotate_left
  · intro w hSw
    go_simp
    try with_reducible rfl
  try simp only [Act.put, List.setIfInBounds_toArray, List.set_cons_zero, List.set_cons_succ]
  refine wpAnyH_take (i := 33) (oi := { dst := some 86, op := Go.Op.pick (Go.Operand.tmp 60) (Go.Operand.const (Go.Value.bool true)) (Go.Operand.tmp 85), type := 4, pos := "law.go:146", after := #[{ on := 7, ground := Go.Ground.data }, { on := 32, ground := Go.Ground.data }], guard := none }) (v := ?_) rfl (by kernel_rfl) (by kernel_rfl) (by kernel_rfl) (fun _ _ _ h => h) (Or.inl ⟨by rfl, ?_⟩) (by assumption) ?_
  rotate_left
  · intro w hSw
    go_simp
    try with_reducible rfl
  try simp only [Act.put, List.setIfInBounds_toArray, List.set_cons_zero, List.set_cons_succ]
  refine wpAnyH_done (by kernel_rfl) ?_ _
  have hL := hHeld
  clear hHeld
  have q25a := (live_get hL B20 x (by simp)).cell 0 (by omega)
  have q25b := (live_get hL B20 x (by simp)).cell 1 (by omega)
  have q25c := (live_get hL B20 x (by simp)).cell 2 (by omega)
  have q25d := (live_get hL B20 x (by simp)).cell 3 (by omega)
  have q26a := (live_get hL B22 y (by simp)).cell 0 (by omega)
  have q26b := (live_get hL B22 y (by simp)).cell 1 (by omega)
  have q26c := (live_get hL B22 y (by simp)).cell 2 (by omega)
  have q26d := (live_get hL B22 y (by simp)).cell 3 (by omega)
  go_wp2_with fail
  clear q25a q25b q25c q25d q26a q26b q26c q26d
  refine (wakes_x _).mono ?_
  rintro e W27 ⟨rfl, hB⟩
  have hL2 := live_below hL hB
  clear hB hL
  have hL := hL2
  clear hL2
  go_wp2
  go_ret
  exact ⟨rfl, hL.2⟩

set_option maxRecDepth 100000 in
set_option maxHeartbeats 4000000 in
theorem sq_3 (a b p q s d x y : Nat → Nat) (o2 os od ox oy : Bool) (sp sa sb c1 c2 : Int) (ha : Wds a) (hb : Wds b) (vp : Wds p) (vq : Wds q) (vs : Wds s) (vd : Wds d)
    (hp : mulR a a = p) (hq : mulR b b = q) (hs : addR a b = s) (hd : subR a b = d) (hx : mulR s d = x) (hy : subR p q = y) (hos : addO a b = os) (hod : subO a b = od) (hox : mulO s d = ox) (hoy : subO p q = oy)
    (hsp0 : signI p = sp) (hsa0 : signI a = sa) (hsb0 : signI b = sb) (hc1 : cmpR p q = c1) (hc2 : cmpR a b = c2) (he : eqB x y = true)
    (ho1 : mulO a a = false) (ho2 : mulO b b = false) (hsp : decide (sp < 0) = false) (hsa : decide (0 ≤ sa) = false) (w : World) :
    Calls Try.prog 7 #[.agg #[.int .u64 (a 0), .int .u64 (a 1), .int .u64 (a 2), .int .u64 (a 3)], .agg #[.int .u64 (b 0), .int .u64 (b 1), .int .u64 (b 2), .int .u64 (b 3)]] w fun e w' => e = .returned (.bool true) ∧ Below w.heap.size w w' := by
  have E := fun w => eq_c he w
  have hL := live_alloc (live_alloc (live_nil w) a) b
  simp only [World.size_alloc] at hL
  have Xhp := Lib.hid hp
  have Xhq := Lib.hid hq
  have Xhs := Lib.hid hs
  have Xhd := Lib.hid hd
  have Xhx := Lib.hid hx
  have Xhy := Lib.hid hy
  have Xhos := Lib.hid hos
  have Xhod := Lib.hid hod
  have Xhox := Lib.hid hox
  have Xhoy := Lib.hid hoy
  have Xhsp0 := Lib.hid hsp0
  have Xhsa0 := Lib.hid hsa0
  have Xhsb0 := Lib.hid hsb0
  have Xhc1 := Lib.hid hc1
  have Xhc2 := Lib.hid hc2
  have Xhe := Lib.hid he
  have Xho1 := Lib.hid ho1
  have Xho2 := Lib.hid ho2
  clear hp hq hs hd hx hy hos hod hox hoy hsp0 hsa0 hsb0 hc1 hc2 he ho1 ho2
  go_enter Try.func7, Try.ntmps7
  go_wp2_with fail
  obtain ⟨V0, hV0⟩ : ∃ V, (w.alloc (.cells #[.int .u64 (a 0), .int .u64 (a 1), .int .u64 (a 2), .int .u64 (a 3)] 24)).alloc (.cells #[.int .u64 (b 0), .int .u64 (b 1), .int .u64 (b 2), .int .u64 (b 3)] 24) = V := ⟨_, rfl⟩
  rw [hV0] at hL ⊢
  obtain ⟨Bb, hBb⟩ : ∃ B, w.heap.size + 1 = B := ⟨_, rfl⟩
  rw [hBb] at hL ⊢
  obtain ⟨Ba, hBa⟩ : ∃ B, w.heap.size = B := ⟨_, rfl⟩
  rw [hBa] at hL ⊢
  clear hV0 hBb hBa
  refine (mul_c ha ha Xhp.out Xho1.out _).mono ?_
  rintro e W2 ⟨rfl, hB⟩
  have hL2 := live_alloc (live_below hL hB) p
  clear hB hL
  have hL := hL2
  clear hL2
  have q3a := (live_get hL Bb b (by simp)).cell 0 (by omega)
  have q3b := (live_get hL Bb b (by simp)).cell 1 (by omega)
  have q3c := (live_get hL Bb b (by simp)).cell 2 (by omega)
  have q3d := (live_get hL Bb b (by simp)).cell 3 (by omega)
  go_wp2_with fail
  clear q3a q3b q3c q3d
  obtain ⟨B4, hBx⟩ : ∃ B, W2.heap.size = B := ⟨_, rfl⟩
  obtain ⟨V4, hVx⟩ : ∃ V, W2.alloc (.cells #[.int .u64 (p 0), .int .u64 (p 1), .int .u64 (p 2), .int .u64 (p 3)] 24) = V := ⟨_, rfl⟩
  rw [hBx, hVx] at hL
  rw [hBx, hVx]
  clear hBx hVx
  refine (mul_c hb hb Xhq.out Xho2.out _).mono ?_
  rintro e W5 ⟨rfl, hB⟩
  have hL2 := live_alloc (live_below hL hB) q
  clear hB hL
  have hL := hL2
  clear hL2
  have q6a := (live_get hL Ba a (by simp)).cell 0 (by omega)
  have q6b := (live_get hL Ba a (by simp)).cell 1 (by omega)
  have q6c := (live_get hL Ba a (by simp)).cell 2 (by omega)
  have q6d := (live_get hL Ba a (by simp)).cell 3 (by omega)
  have q7a := (live_get hL Bb b (by simp)).cell 0 (by omega)
  have q7b := (live_get hL Bb b (by simp)).cell 1 (by omega)
  have q7c := (live_get hL Bb b (by simp)).cell 2 (by omega)
  have q7d := (live_get hL Bb b (by simp)).cell 3 (by omega)
  go_wp2_with fail
  clear q6a q6b q6c q6d q7a q7b q7c q7d
  obtain ⟨B8, hBx⟩ : ∃ B, W5.heap.size = B := ⟨_, rfl⟩
  obtain ⟨V8, hVx⟩ : ∃ V, W5.alloc (.cells #[.int .u64 (q 0), .int .u64 (q 1), .int .u64 (q 2), .int .u64 (q 3)] 24) = V := ⟨_, rfl⟩
  rw [hBx, hVx] at hL
  rw [hBx, hVx]
  clear hBx hVx
  refine (add_c ha hb Xhs.out Xhos.out _).mono ?_
  rintro e W9 ⟨rfl, hB⟩
  have hL2 := live_alloc (live_below hL hB) s
  clear hB hL
  have hL := hL2
  clear hL2
  have q10a := (live_get hL Ba a (by simp)).cell 0 (by omega)
  have q10b := (live_get hL Ba a (by simp)).cell 1 (by omega)
  have q10c := (live_get hL Ba a (by simp)).cell 2 (by omega)
  have q10d := (live_get hL Ba a (by simp)).cell 3 (by omega)
  have q11a := (live_get hL Bb b (by simp)).cell 0 (by omega)
  have q11b := (live_get hL Bb b (by simp)).cell 1 (by omega)
  have q11c := (live_get hL Bb b (by simp)).cell 2 (by omega)
  have q11d := (live_get hL Bb b (by simp)).cell 3 (by omega)
  go_wp2_with fail
  clear q10a q10b q10c q10d q11a q11b q11c q11d
  obtain ⟨B12, hBx⟩ : ∃ B, W9.heap.size = B := ⟨_, rfl⟩
  obtain ⟨V12, hVx⟩ : ∃ V, W9.alloc (.cells #[.int .u64 (s 0), .int .u64 (s 1), .int .u64 (s 2), .int .u64 (s 3)] 24) = V := ⟨_, rfl⟩
  rw [hBx, hVx] at hL
  rw [hBx, hVx]
  clear hBx hVx
  refine (sub_c ha hb Xhd.out Xhod.out _).mono ?_
  rintro e W13 ⟨rfl, hB⟩
  have hL2 := live_alloc (live_below hL hB) d
  clear hB hL
  have hL := hL2
  clear hL2
  have q14a := (live_get hL B12 s (by simp)).cell 0 (by omega)
  have q14b := (live_get hL B12 s (by simp)).cell 1 (by omega)
  have q14c := (live_get hL B12 s (by simp)).cell 2 (by omega)
  have q14d := (live_get hL B12 s (by simp)).cell 3 (by omega)
  have q15a := (live_get hL W13.heap.size d (by simp)).cell 0 (by omega)
  have q15b := (live_get hL W13.heap.size d (by simp)).cell 1 (by omega)
  have q15c := (live_get hL W13.heap.size d (by simp)).cell 2 (by omega)
  have q15d := (live_get hL W13.heap.size d (by simp)).cell 3 (by omega)
  go_wp2_with fail
  clear q14a q14b q14c q14d q15a q15b q15c q15d
  obtain ⟨B16, hBx⟩ : ∃ B, W13.heap.size = B := ⟨_, rfl⟩
  obtain ⟨V16, hVx⟩ : ∃ V, W13.alloc (.cells #[.int .u64 (d 0), .int .u64 (d 1), .int .u64 (d 2), .int .u64 (d 3)] 24) = V := ⟨_, rfl⟩
  rw [hBx, hVx] at hL
  rw [hBx, hVx]
  clear hBx hVx
  refine (mul_c vs vd Xhx.out Xhox.out _).mono ?_
  rintro e W17 ⟨rfl, hB⟩
  have hL2 := live_alloc (live_below hL hB) x
  clear hB hL
  have hL := hL2
  clear hL2
  have q18a := (live_get hL B4 p (by simp)).cell 0 (by omega)
  have q18b := (live_get hL B4 p (by simp)).cell 1 (by omega)
  have q18c := (live_get hL B4 p (by simp)).cell 2 (by omega)
  have q18d := (live_get hL B4 p (by simp)).cell 3 (by omega)
  have q19a := (live_get hL B8 q (by simp)).cell 0 (by omega)
  have q19b := (live_get hL B8 q (by simp)).cell 1 (by omega)
  have q19c := (live_get hL B8 q (by simp)).cell 2 (by omega)
  have q19d := (live_get hL B8 q (by simp)).cell 3 (by omega)
  go_wp2_with fail
  clear q18a q18b q18c q18d q19a q19b q19c q19d
  obtain ⟨B20, hBx⟩ : ∃ B, W17.heap.size = B := ⟨_, rfl⟩
  obtain ⟨V20, hVx⟩ : ∃ V, W17.alloc (.cells #[.int .u64 (x 0), .int .u64 (x 1), .int .u64 (x 2), .int .u64 (x 3)] 24) = V := ⟨_, rfl⟩
  rw [hBx, hVx] at hL
  rw [hBx, hVx]
  clear hBx hVx
  refine (sub_c vp vq Xhy.out Xhoy.out _).mono ?_
  rintro e W21 ⟨rfl, hB⟩
  have hL2 := live_alloc (live_below hL hB) y
  clear hB hL
  have hL := hL2
  clear hL2
  go_wp2_with fail
  obtain ⟨B22, hBx⟩ : ∃ B, W21.heap.size = B := ⟨_, rfl⟩
  obtain ⟨V22, hVx⟩ : ∃ V, W21.alloc (.cells #[.int .u64 (y 0), .int .u64 (y 1), .int .u64 (y 2), .int .u64 (y 3)] 24) = V := ⟨_, rfl⟩
  rw [hBx, hVx] at hL
  rw [hBx, hVx]
  clear hBx hVx
  refine wp_region_held_drew (S := fun W' => Live w [(B22, y), (B20, x), (B16, d), (B12, s), (B8, q), (B4, p), (Bb, b), (Ba, a)] W') (by kernel_rfl) (live_drew hL) (fun hHeld => ?_)
  obtain ⟨D23, hW0⟩ : ∃ W0, V22.drew = W0 := ⟨_, rfl⟩
  rw [hW0] at hHeld ⊢
  clear hW0 hL
  refine wpAnyH_take (i := 0) (oi := { dst := some 53, op := Go.Op.move (Go.Operand.tmp 6), type := 4, pos := "law.go:146", after := #[], guard := none }) (v := ?_) rfl (by kernel_rfl) (by kernel_rfl) (by kernel_rfl) (fun _ _ _ h => h) (Or.inl ⟨by rfl, ?_⟩) (by assumption) ?_
  rotate_left
  · intro w hSw
    go_simp
    try with_reducible rfl
  try simp only [Act.put, List.setIfInBounds_toArray, List.set_cons_zero, List.set_cons_succ]
  refine wpAnyH_take (i := 1) (oi := { dst := some 54, op := Go.Op.unOp Go.UnOp.not 4 (Go.Operand.tmp 53), type := 4, pos := "law.go:146", after := #[{ on := 0, ground := Go.Ground.data }], guard := none }) (v := ?_) rfl (by kernel_rfl) (by kernel_rfl) (by kernel_rfl) (fun _ _ _ h => h) (Or.inl ⟨by rfl, ?_⟩) (by assumption) ?_
  rotate_left
  · intro w hSw
    go_simp
    try with_reducible rfl
  try simp only [Act.put, List.setIfInBounds_toArray, List.set_cons_zero, List.set_cons_succ]
  refine wpAnyH_take (i := 2) (oi := { dst := some 55, op := Go.Op.move (Go.Operand.tmp 54), type := 4, pos := "law.go:146", after := #[{ on := 1, ground := Go.Ground.data }], guard := none }) (v := ?_) rfl (by kernel_rfl) (by kernel_rfl) (by kernel_rfl) (fun _ _ _ h => h) (Or.inl ⟨by rfl, ?_⟩) (by assumption) ?_
  rotate_left
  · intro w hSw
    go_simp
    try with_reducible rfl
  try simp only [Act.put, List.setIfInBounds_toArray, List.set_cons_zero, List.set_cons_succ]
  refine wpAnyH_take (i := 3) (oi := { dst := some 56, op := Go.Op.load 24 (Go.Operand.tmp 5), type := 24, pos := "law.go:146", after := #[{ on := 2, ground := Go.Ground.guard }], guard := some (2, true) }) (v := ?_) rfl (by kernel_rfl) (by kernel_rfl) (by kernel_rfl) (fun _ _ _ h => h) (Or.inl ⟨by rfl, ?_⟩) (by assumption) ?_
  rotate_left
  · intro w hSw
    have k0 := (live_get hSw B4 p (by simp)).cell 0 (by omega)
    have k1 := (live_get hSw B4 p (by simp)).cell 1 (by omega)
    have k2 := (live_get hSw B4 p (by simp)).cell 2 (by omega)
    have k3 := (live_get hSw B4 p (by simp)).cell 3 (by omega)
    go_simp
    try with_reducible rfl
  try simp only [Act.put, List.setIfInBounds_toArray, List.set_cons_zero, List.set_cons_succ]
  refine wpAnyH_ready (rs := [4]) (by kernel_rfl) (by simp) ?_
  refine AllReadyH.cons (o := { dst := some 57, op := Go.Op.call { callee := Go.Callee.value (Go.Operand.func 25), args := #[Go.Operand.tmp 56], argTypes := #[24] }, type := 3, pos := "law.go:146", after := #[{ on := 3, ground := Go.Ground.data }, { on := 2, ground := Go.Ground.chain }, { on := 2, ground := Go.Ground.guard }], guard := some (2, true) }) rfl (fun K hK => ?_) AllReadyH.nil
  go_simp
  refine (sign_c vp Xhsp0.out _).mono ?_
  rintro e W24 ⟨rfl, hBl⟩
  refine hK.out _ _ ?_ (fun hHeld2 => ?_)
  · exact live_below hHeld hBl
  clear hK K hHeld
  have hHeld := hHeld2
  clear hHeld2
  try simp only [Act.put, List.setIfInBounds_toArray, List.set_cons_zero, List.set_cons_succ]
  refine wpAnyH_take (i := 5) (oi := { dst := some 58, op := Go.Op.binOp Go.BinOp.lss 3 (Go.Operand.tmp 57) (Go.Operand.const (Go.Value.int Go.IntKind.i64 0)) 3, type := 4, pos := "law.go:146", after := #[{ on := 4, ground := Go.Ground.data }, { on := 2, ground := Go.Ground.guard }], guard := some (2, true) }) (v := ?_) rfl (by kernel_rfl) (by kernel_rfl) (by kernel_rfl) (fun _ _ _ h => h) (Or.inl ⟨by rfl, ?_⟩) (by assumption) ?_
  rotate_left
  · intro w hSw
    go_simp
    try with_reducible rfl
  try simp only [Act.put, List.setIfInBounds_toArray, List.set_cons_zero, List.set_cons_succ]
  refine wpAnyH_take (i := 6) (oi := { dst := some 59, op := Go.Op.pick (Go.Operand.tmp 55) (Go.Operand.tmp 58) (Go.Operand.const (Go.Value.bool false)), type := 4, pos := "law.go:146", after := #[{ on := 2, ground := Go.Ground.data }, { on := 5, ground := Go.Ground.data }], guard := none }) (v := ?_) rfl (by kernel_rfl) (by kernel_rfl) (by kernel_rfl) (fun _ _ _ h => h) (Or.inl ⟨by rfl, ?_⟩) (by assumption) ?_
  rotate_left
  · intro w hSw
    go_simp
    try with_reducible rfl
  try simp only [Act.put, List.setIfInBounds_toArray, List.set_cons_zero, List.set_cons_succ]
  refine wpAnyH_take (i := 7) (oi := { dst := some 60, op := Go.Op.move (Go.Operand.tmp 59), type := 4, pos := "law.go:146", after := #[{ on := 6, ground := Go.Ground.data }, { on := 4, ground := Go.Ground.chain }], guard := none }) (v := ?_) rfl (by kernel_rfl) (by kernel_rfl) (by kernel_rfl) (fun _ _ _ h => h) (Or.inl ⟨by rfl, ?_⟩) (by assumption) ?_
  rotate_left
  · intro w hSw
    go_simp
    try with_reducible rfl
  try simp only [Act.put, List.setIfInBounds_toArray, List.set_cons_zero, List.set_cons_succ]
  refine wpAnyH_take (i := 8) (oi := { dst := some 61, op := Go.Op.move (Go.Operand.tmp 6), type := 4, pos := "law.go:146", after := #[{ on := 7, ground := Go.Ground.guard }], guard := some (7, false) }) (v := ?_) rfl (by kernel_rfl) (by kernel_rfl) (by kernel_rfl) (fun _ _ _ h => h) (Or.inl ⟨by rfl, ?_⟩) (by assumption) ?_
  rotate_left
  · intro w hSw
    go_simp
    try with_reducible rfl
  try simp only [Act.put, List.setIfInBounds_toArray, List.set_cons_zero, List.set_cons_succ]
  refine wpAnyH_take (i := 9) (oi := { dst := some 62, op := Go.Op.unOp Go.UnOp.not 4 (Go.Operand.tmp 61), type := 4, pos := "law.go:146", after := #[{ on := 8, ground := Go.Ground.data }, { on := 7, ground := Go.Ground.guard }], guard := some (7, false) }) (v := ?_) rfl (by kernel_rfl) (by kernel_rfl) (by kernel_rfl) (fun _ _ _ h => h) (Or.inl ⟨by rfl, ?_⟩) (by assumption) ?_
  rotate_left
  · intro w hSw
    go_simp
    try with_reducible rfl
  try simp only [Act.put, List.setIfInBounds_toArray, List.set_cons_zero, List.set_cons_succ]
  refine wpAnyH_take (i := 10) (oi := { dst := some 63, op := Go.Op.move (Go.Operand.tmp 62), type := 4, pos := "law.go:146", after := #[{ on := 9, ground := Go.Ground.data }, { on := 7, ground := Go.Ground.chain }, { on := 7, ground := Go.Ground.guard }], guard := some (7, false) }) (v := ?_) rfl (by kernel_rfl) (by kernel_rfl) (by kernel_rfl) (fun _ _ _ h => h) (Or.inl ⟨by rfl, ?_⟩) (by assumption) ?_
  rotate_left
  · intro w hSw
    go_simp
    try with_reducible rfl
  try simp only [Act.put, List.setIfInBounds_toArray, List.set_cons_zero, List.set_cons_succ]
  refine wpAnyH_take (i := 11) (oi := { dst := some 64, op := Go.Op.move (Go.Operand.tmp 8), type := 4, pos := "law.go:146", after := #[{ on := 10, ground := Go.Ground.guard }], guard := some (10, true) }) (v := ?_) rfl (by kernel_rfl) (by kernel_rfl) (by kernel_rfl) (fun _ _ _ h => h) (Or.inl ⟨by rfl, ?_⟩) (by assumption) ?_
  rotate_left
  · intro w hSw
    go_simp
    try with_reducible rfl
  try simp only [Act.put, List.setIfInBounds_toArray, List.set_cons_zero, List.set_cons_succ]
  refine wpAnyH_take (i := 12) (oi := { dst := some 65, op := Go.Op.unOp Go.UnOp.not 4 (Go.Operand.tmp 64), type := 4, pos := "law.go:146", after := #[{ on := 11, ground := Go.Ground.data }, { on := 10, ground := Go.Ground.guard }], guard := some (10, true) }) (v := ?_) rfl (by kernel_rfl) (by kernel_rfl) (by kernel_rfl) (fun _ _ _ h => h) (Or.inl ⟨by rfl, ?_⟩) (by assumption) ?_
  rotate_left
  · intro w hSw
    go_simp
    try with_reducible rfl
  try simp only [Act.put, List.setIfInBounds_toArray, List.set_cons_zero, List.set_cons_succ]
  refine wpAnyH_take (i := 13) (oi := { dst := some 66, op := Go.Op.pick (Go.Operand.tmp 63) (Go.Operand.tmp 65) (Go.Operand.const (Go.Value.bool false)), type := 4, pos := "law.go:146", after := #[{ on := 10, ground := Go.Ground.data }, { on := 12, ground := Go.Ground.data }, { on := 7, ground := Go.Ground.guard }], guard := some (7, false) }) (v := ?_) rfl (by kernel_rfl) (by kernel_rfl) (by kernel_rfl) (fun _ _ _ h => h) (Or.inl ⟨by rfl, ?_⟩) (by assumption) ?_
  rotate_left
  · intro w hSw
    go_simp
    try with_reducible rfl
  try simp only [Act.put, List.setIfInBounds_toArray, List.set_cons_zero, List.set_cons_succ]
  refine wpAnyH_take (i := 14) (oi := { dst := some 67, op := Go.Op.move (Go.Operand.tmp 66), type := 4, pos := "law.go:146", after := #[{ on := 13, ground := Go.Ground.data }, { on := 10, ground := Go.Ground.chain }, { on := 7, ground := Go.Ground.guard }], guard := some (7, false) }) (v := ?_) rfl (by kernel_rfl) (by kernel_rfl) (by kernel_rfl) (fun _ _ _ h => h) (Or.inl ⟨by rfl, ?_⟩) (by assumption) ?_
  rotate_left
  · intro w hSw
    go_simp
    try with_reducible rfl
  try simp only [Act.put, List.setIfInBounds_toArray, List.set_cons_zero, List.set_cons_succ]
  refine wpAnyH_take (i := 15) (oi := { dst := some 68, op := Go.Op.load 24 (Go.Operand.tmp 2), type := 24, pos := "law.go:146", after := #[{ on := 14, ground := Go.Ground.guard }], guard := some (14, true) }) (v := ?_) rfl (by kernel_rfl) (by kernel_rfl) (by kernel_rfl) (fun _ _ _ h => h) (Or.inl ⟨by rfl, ?_⟩) (by assumption) ?_
  rotate_left
  · intro w hSw
    have k0 := (live_get hSw Ba a (by simp)).cell 0 (by omega)
    have k1 := (live_get hSw Ba a (by simp)).cell 1 (by omega)
    have k2 := (live_get hSw Ba a (by simp)).cell 2 (by omega)
    have k3 := (live_get hSw Ba a (by simp)).cell 3 (by omega)
    go_simp
    try with_reducible rfl
  try simp only [Act.put, List.setIfInBounds_toArray, List.set_cons_zero, List.set_cons_succ]
  refine wpAnyH_ready (rs := [16]) (by kernel_rfl) (by simp) ?_
  refine AllReadyH.cons (o := { dst := some 69, op := Go.Op.call { callee := Go.Callee.value (Go.Operand.func 25), args := #[Go.Operand.tmp 68], argTypes := #[24] }, type := 3, pos := "law.go:146", after := #[{ on := 15, ground := Go.Ground.data }, { on := 14, ground := Go.Ground.chain }, { on := 14, ground := Go.Ground.guard }], guard := some (14, true) }) rfl (fun K hK => ?_) AllReadyH.nil
  go_simp
  refine (sign_c ha Xhsa0.out _).mono ?_
  rintro e W25 ⟨rfl, hBl⟩
  refine hK.out _ _ ?_ (fun hHeld2 => ?_)
  · exact live_below hHeld hBl
  clear hK K hHeld
  have hHeld := hHeld2
  clear hHeld2
  try simp only [Act.put, List.setIfInBounds_toArray, List.set_cons_zero, List.set_cons_succ]
  refine wpAnyH_take (i := 17) (oi := { dst := some 70, op := Go.Op.binOp Go.BinOp.geq 3 (Go.Operand.tmp 69) (Go.Operand.const (Go.Value.int Go.IntKind.i64 0)) 3, type := 4, pos := "law.go:146", after := #[{ on := 16, ground := Go.Ground.data }, { on := 14, ground := Go.Ground.guard }], guard := some (14, true) }) (v := ?_) rfl (by kernel_rfl) (by kernel_rfl) (by kernel_rfl) (fun _ _ _ h => h) (Or.inl ⟨by rfl, ?_⟩) (by assumption) ?_
  rotate_left
  · intro w hSw
    go_simp
    try with_reducible rfl
  try simp only [Act.put, List.setIfInBounds_toArray, List.set_cons_zero, List.set_cons_succ]
  refine wpAnyH_take (i := 18) (oi := { dst := some 71, op := Go.Op.pick (Go.Operand.tmp 67) (Go.Operand.tmp 70) (Go.Operand.const (Go.Value.bool false)), type := 4, pos := "law.go:146", after := #[{ on := 14, ground := Go.Ground.data }, { on := 17, ground := Go.Ground.data }, { on := 7, ground := Go.Ground.guard }], guard := some (7, false) }) (v := ?_) rfl (by kernel_rfl) (by kernel_rfl) (by kernel_rfl) (fun _ _ _ h => h) (Or.inl ⟨by rfl, ?_⟩) (by assumption) ?_
  rotate_left
  · intro w hSw
    go_simp
    try with_reducible rfl
  try simp only [Act.put, List.setIfInBounds_toArray, List.set_cons_zero, List.set_cons_succ]
  refine wpAnyH_take (i := 19) (oi := { dst := some 72, op := Go.Op.move (Go.Operand.tmp 71), type := 4, pos := "law.go:146", after := #[{ on := 18, ground := Go.Ground.data }, { on := 16, ground := Go.Ground.chain }, { on := 7, ground := Go.Ground.guard }], guard := some (7, false) }) (v := ?_) rfl (by kernel_rfl) (by kernel_rfl) (by kernel_rfl) (fun _ _ _ h => h) (Or.inl ⟨by rfl, ?_⟩) (by assumption) ?_
  rotate_left
  · intro w hSw
    go_simp
    try with_reducible rfl
  try simp only [Act.put, List.setIfInBounds_toArray, List.set_cons_zero, List.set_cons_succ]
  refine wpAnyH_take (i := 20) (oi := { dst := some 73, op := Go.Op.load 24 (Go.Operand.tmp 3), type := 24, pos := "law.go:146", after := #[{ on := 19, ground := Go.Ground.guard }], guard := some (19, true) }) (v := undef) rfl (by kernel_rfl) (by kernel_rfl) (by kernel_rfl) (fun _ _ _ h => h) (Or.inr ⟨by rfl, rfl⟩) (by assumption) ?_
  try simp only [Act.put, List.setIfInBounds_toArray, List.set_cons_zero, List.set_cons_succ]
  refine wpAnyH_ready (rs := [21]) (by kernel_rfl) (by simp) ?_
  refine AllReadyH.cons (o := { dst := some 74, op := Go.Op.call { callee := Go.Callee.value (Go.Operand.func 25), args := #[Go.Operand.tmp 73], argTypes := #[24] }, type := 3, pos := "law.go:146", after := #[{ on := 20, ground := Go.Ground.data }, { on := 19, ground := Go.Ground.chain }, { on := 19, ground := Go.Ground.guard }], guard := some (19, true) }) rfl (fun K hK => ?_) AllReadyH.nil
  go_simp
  refine hK.out _ _ ?_ (fun hHeld2 => ?_)
  · exact hHeld
  clear hK K hHeld
  have hHeld := hHeld2
  clear hHeld2
  try simp only [Act.put, List.setIfInBounds_toArray, List.set_cons_zero, List.set_cons_succ]
  refine wpAnyH_take (i := 22) (oi := { dst := some 75, op := Go.Op.binOp Go.BinOp.geq 3 (Go.Operand.tmp 74) (Go.Operand.const (Go.Value.int Go.IntKind.i64 0)) 3, type := 4, pos := "law.go:146", after := #[{ on := 21, ground := Go.Ground.data }, { on := 19, ground := Go.Ground.guard }], guard := some (19, true) }) (v := undef) rfl (by kernel_rfl) (by kernel_rfl) (by kernel_rfl) (fun _ _ _ h => h) (Or.inr ⟨by rfl, rfl⟩) (by assumption) ?_
  try simp only [Act.put, List.setIfInBounds_toArray, List.set_cons_zero, List.set_cons_succ]
  refine wpAnyH_take (i := 23) (oi := { dst := some 76, op := Go.Op.pick (Go.Operand.tmp 72) (Go.Operand.tmp 75) (Go.Operand.const (Go.Value.bool false)), type := 4, pos := "law.go:146", after := #[{ on := 19, ground := Go.Ground.data }, { on := 22, ground := Go.Ground.data }, { on := 7, ground := Go.Ground.guard }], guard := some (7, false) }) (v := ?_) rfl (by kernel_rfl) (by kernel_rfl) (by kernel_rfl) (fun _ _ _ h => h) (Or.inl ⟨by rfl, ?_⟩) (by assumption) ?_
  rotate_left
  · intro w hSw
    go_simp
    try with_reducible rfl
  try simp only [Act.put, List.setIfInBounds_toArray, List.set_cons_zero, List.set_cons_succ]
  refine wpAnyH_take (i := 24) (oi := { dst := some 77, op := Go.Op.move (Go.Operand.tmp 76), type := 4, pos := "law.go:146", after := #[{ on := 23, ground := Go.Ground.data }, { on := 21, ground := Go.Ground.chain }, { on := 7, ground := Go.Ground.guard }], guard := some (7, false) }) (v := ?_) rfl (by kernel_rfl) (by kernel_rfl) (by kernel_rfl) (fun _ _ _ h => h) (Or.inl ⟨by rfl, ?_⟩) (by assumption) ?_
  rotate_left
  · intro w hSw
    go_simp
    try with_reducible rfl
  try simp only [Act.put, List.setIfInBounds_toArray, List.set_cons_zero, List.set_cons_succ]
  refine wpAnyH_take (i := 25) (oi := { dst := some 78, op := Go.Op.load 24 (Go.Operand.tmp 5), type := 24, pos := "law.go:146", after := #[{ on := 24, ground := Go.Ground.guard }], guard := some (24, true) }) (v := undef) rfl (by kernel_rfl) (by kernel_rfl) (by kernel_rfl) (fun _ _ _ h => h) (Or.inr ⟨by rfl, rfl⟩) (by assumption) ?_
  try simp only [Act.put, List.setIfInBounds_toArray, List.set_cons_zero, List.set_cons_succ]
  refine wpAnyH_take (i := 26) (oi := { dst := some 79, op := Go.Op.load 24 (Go.Operand.tmp 7), type := 24, pos := "law.go:146", after := #[{ on := 24, ground := Go.Ground.guard }], guard := some (24, true) }) (v := undef) rfl (by kernel_rfl) (by kernel_rfl) (by kernel_rfl) (fun _ _ _ h => h) (Or.inr ⟨by rfl, rfl⟩) (by assumption) ?_
  try simp only [Act.put, List.setIfInBounds_toArray, List.set_cons_zero, List.set_cons_succ]
  refine wpAnyH_take (i := 28) (oi := { dst := some 81, op := Go.Op.load 24 (Go.Operand.tmp 2), type := 24, pos := "law.go:146", after := #[{ on := 24, ground := Go.Ground.guard }], guard := some (24, true) }) (v := undef) rfl (by kernel_rfl) (by kernel_rfl) (by kernel_rfl) (fun _ _ _ h => h) (Or.inr ⟨by rfl, rfl⟩) (by assumption) ?_
  try simp only [Act.put, List.setIfInBounds_toArray, List.set_cons_zero, List.set_cons_succ]
  refine wpAnyH_take (i := 29) (oi := { dst := some 82, op := Go.Op.load 24 (Go.Operand.tmp 3), type := 24, pos := "law.go:146", after := #[{ on := 24, ground := Go.Ground.guard }], guard := some (24, true) }) (v := undef) rfl (by kernel_rfl) (by kernel_rfl) (by kernel_rfl) (fun _ _ _ h => h) (Or.inr ⟨by rfl, rfl⟩) (by assumption) ?_
  try simp only [Act.put, List.setIfInBounds_toArray, List.set_cons_zero, List.set_cons_succ]
  refine wpAnyH_ready (rs := [27]) (by kernel_rfl) (by simp) ?_
  refine AllReadyH.cons (o := { dst := some 80, op := Go.Op.call { callee := Go.Callee.value (Go.Operand.func 23), args := #[Go.Operand.tmp 78, Go.Operand.tmp 79], argTypes := #[24, 24] }, type := 3, pos := "law.go:146", after := #[{ on := 25, ground := Go.Ground.data }, { on := 26, ground := Go.Ground.data }, { on := 24, ground := Go.Ground.chain }, { on := 24, ground := Go.Ground.guard }], guard := some (24, true) }) rfl (fun K hK => ?_) AllReadyH.nil
  go_simp
  refine hK.out _ _ ?_ (fun hHeld2 => ?_)
  · exact hHeld
  clear hK K hHeld
  have hHeld := hHeld2
  clear hHeld2
  try simp only [Act.put, List.setIfInBounds_toArray, List.set_cons_zero, List.set_cons_succ]
  refine wpAnyH_ready (rs := [30]) (by kernel_rfl) (by simp) ?_
  refine AllReadyH.cons (o := { dst := some 83, op := Go.Op.call { callee := Go.Callee.value (Go.Operand.func 23), args := #[Go.Operand.tmp 81, Go.Operand.tmp 82], argTypes := #[24, 24] }, type := 3, pos := "law.go:146", after := #[{ on := 28, ground := Go.Ground.data }, { on := 29, ground := Go.Ground.data }, { on := 27, ground := Go.Ground.chain }, { on := 24, ground := Go.Ground.guard }], guard := some (24, true) }) rfl (fun K hK => ?_) AllReadyH.nil
  go_simp
  refine hK.out _ _ ?_ (fun hHeld2 => ?_)
  · exact hHeld
  clear hK K hHeld
  have hHeld := hHeld2
  clear hHeld2
  try simp only [Act.put, List.setIfInBounds_toArray, List.set_cons_zero, List.set_cons_succ]
  refine wpAnyH_take (i := 31) (oi := { dst := some 84, op := Go.Op.binOp Go.BinOp.neq 3 (Go.Operand.tmp 80) (Go.Operand.tmp 83) 3, type := 4, pos := "law.go:146", after := #[{ on := 27, ground := Go.Ground.data }, { on := 30, ground := Go.Ground.data }, { on := 24, ground := Go.Ground.guard }], guard := some (24, true) }) (v := undef) rfl (by kernel_rfl) (by kernel_rfl) (by kernel_rfl) (fun _ _ _ h => h) (Or.inr ⟨by rfl, rfl⟩) (by assumption) ?_
  try simp only [Act.put, List.setIfInBounds_toArray, List.set_cons_zero, List.set_cons_succ]
  refine wpAnyH_take (i := 32) (oi := { dst := some 85, op := Go.Op.pick (Go.Operand.tmp 77) (Go.Operand.tmp 84) (Go.Operand.const (Go.Value.bool false)), type := 4, pos := "law.go:146", after := #[{ on := 24, ground := Go.Ground.data }, { on := 31, ground := Go.Ground.data }, { on := 7, ground := Go.Ground.guard }], guard := some (7, false) }) (v := ?_) rfl (by kernel_rfl) (by kernel_rfl) (by kernel_rfl) (fun _ _ _ h => h) (Or.inl ⟨by rfl, ?_⟩) (by assumption) ?_
  rotate_left
  · intro w hSw
    go_simp
    try with_reducible rfl
  try simp only [Act.put, List.setIfInBounds_toArray, List.set_cons_zero, List.set_cons_succ]
  refine wpAnyH_take (i := 33) (oi := { dst := some 86, op := Go.Op.pick (Go.Operand.tmp 60) (Go.Operand.const (Go.Value.bool true)) (Go.Operand.tmp 85), type := 4, pos := "law.go:146", after := #[{ on := 7, ground := Go.Ground.data }, { on := 32, ground := Go.Ground.data }], guard := none }) (v := ?_) rfl (by kernel_rfl) (by kernel_rfl) (by kernel_rfl) (fun _ _ _ h => h) (Or.inl ⟨by rfl, ?_⟩) (by assumption) ?_
  rotate_left
  · intro w hSw
    go_simp
    try with_reducible rfl
  try simp only [Act.put, List.setIfInBounds_toArray, List.set_cons_zero, List.set_cons_succ]
  refine wpAnyH_done (by kernel_rfl) ?_ _
  have hL := hHeld
  clear hHeld
  have q26a := (live_get hL B20 x (by simp)).cell 0 (by omega)
  have q26b := (live_get hL B20 x (by simp)).cell 1 (by omega)
  have q26c := (live_get hL B20 x (by simp)).cell 2 (by omega)
  have q26d := (live_get hL B20 x (by simp)).cell 3 (by omega)
  have q27a := (live_get hL B22 y (by simp)).cell 0 (by omega)
  have q27b := (live_get hL B22 y (by simp)).cell 1 (by omega)
  have q27c := (live_get hL B22 y (by simp)).cell 2 (by omega)
  have q27d := (live_get hL B22 y (by simp)).cell 3 (by omega)
  go_wp2_with fail
  clear q26a q26b q26c q26d q27a q27b q27c q27d
  refine (wakes_x _).mono ?_
  rintro e W28 ⟨rfl, hB⟩
  have hL2 := live_below hL hB
  clear hB hL
  have hL := hL2
  clear hL2
  go_wp2
  go_ret
  exact ⟨rfl, hL.2⟩

set_option maxRecDepth 100000 in
set_option maxHeartbeats 4000000 in
theorem sq_4 (a b p q s d x y : Nat → Nat) (o2 os od ox oy : Bool) (sp sa sb c1 c2 : Int) (ha : Wds a) (hb : Wds b) (vp : Wds p) (vq : Wds q) (vs : Wds s) (vd : Wds d)
    (hp : mulR a a = p) (hq : mulR b b = q) (hs : addR a b = s) (hd : subR a b = d) (hx : mulR s d = x) (hy : subR p q = y) (hos : addO a b = os) (hod : subO a b = od) (hox : mulO s d = ox) (hoy : subO p q = oy)
    (hsp0 : signI p = sp) (hsa0 : signI a = sa) (hsb0 : signI b = sb) (hc1 : cmpR p q = c1) (hc2 : cmpR a b = c2) (he : eqB x y = true)
    (ho1 : mulO a a = false) (ho2 : mulO b b = false) (hsp : decide (sp < 0) = false) (hsa : decide (0 ≤ sa) = true) (hsb : decide (0 ≤ sb) = false) (w : World) :
    Calls Try.prog 7 #[.agg #[.int .u64 (a 0), .int .u64 (a 1), .int .u64 (a 2), .int .u64 (a 3)], .agg #[.int .u64 (b 0), .int .u64 (b 1), .int .u64 (b 2), .int .u64 (b 3)]] w fun e w' => e = .returned (.bool true) ∧ Below w.heap.size w w' := by
  have E := fun w => eq_c he w
  have hL := live_alloc (live_alloc (live_nil w) a) b
  simp only [World.size_alloc] at hL
  have Xhp := Lib.hid hp
  have Xhq := Lib.hid hq
  have Xhs := Lib.hid hs
  have Xhd := Lib.hid hd
  have Xhx := Lib.hid hx
  have Xhy := Lib.hid hy
  have Xhos := Lib.hid hos
  have Xhod := Lib.hid hod
  have Xhox := Lib.hid hox
  have Xhoy := Lib.hid hoy
  have Xhsp0 := Lib.hid hsp0
  have Xhsa0 := Lib.hid hsa0
  have Xhsb0 := Lib.hid hsb0
  have Xhc1 := Lib.hid hc1
  have Xhc2 := Lib.hid hc2
  have Xhe := Lib.hid he
  have Xho1 := Lib.hid ho1
  have Xho2 := Lib.hid ho2
  clear hp hq hs hd hx hy hos hod hox hoy hsp0 hsa0 hsb0 hc1 hc2 he ho1 ho2
  go_enter Try.func7, Try.ntmps7
  go_wp2_with fail
  obtain ⟨V0, hV0⟩ : ∃ V, (w.alloc (.cells #[.int .u64 (a 0), .int .u64 (a 1), .int .u64 (a 2), .int .u64 (a 3)] 24)).alloc (.cells #[.int .u64 (b 0), .int .u64 (b 1), .int .u64 (b 2), .int .u64 (b 3)] 24) = V := ⟨_, rfl⟩
  rw [hV0] at hL ⊢
  obtain ⟨Bb, hBb⟩ : ∃ B, w.heap.size + 1 = B := ⟨_, rfl⟩
  rw [hBb] at hL ⊢
  obtain ⟨Ba, hBa⟩ : ∃ B, w.heap.size = B := ⟨_, rfl⟩
  rw [hBa] at hL ⊢
  clear hV0 hBb hBa
  refine (mul_c ha ha Xhp.out Xho1.out _).mono ?_
  rintro e W2 ⟨rfl, hB⟩
  have hL2 := live_alloc (live_below hL hB) p
  clear hB hL
  have hL := hL2
  clear hL2
  have q3a := (live_get hL Bb b (by simp)).cell 0 (by omega)
  have q3b := (live_get hL Bb b (by simp)).cell 1 (by omega)
  have q3c := (live_get hL Bb b (by simp)).cell 2 (by omega)
  have q3d := (live_get hL Bb b (by simp)).cell 3 (by omega)
  go_wp2_with fail
  clear q3a q3b q3c q3d
  obtain ⟨B4, hBx⟩ : ∃ B, W2.heap.size = B := ⟨_, rfl⟩
  obtain ⟨V4, hVx⟩ : ∃ V, W2.alloc (.cells #[.int .u64 (p 0), .int .u64 (p 1), .int .u64 (p 2), .int .u64 (p 3)] 24) = V := ⟨_, rfl⟩
  rw [hBx, hVx] at hL
  rw [hBx, hVx]
  clear hBx hVx
  refine (mul_c hb hb Xhq.out Xho2.out _).mono ?_
  rintro e W5 ⟨rfl, hB⟩
  have hL2 := live_alloc (live_below hL hB) q
  clear hB hL
  have hL := hL2
  clear hL2
  have q6a := (live_get hL Ba a (by simp)).cell 0 (by omega)
  have q6b := (live_get hL Ba a (by simp)).cell 1 (by omega)
  have q6c := (live_get hL Ba a (by simp)).cell 2 (by omega)
  have q6d := (live_get hL Ba a (by simp)).cell 3 (by omega)
  have q7a := (live_get hL Bb b (by simp)).cell 0 (by omega)
  have q7b := (live_get hL Bb b (by simp)).cell 1 (by omega)
  have q7c := (live_get hL Bb b (by simp)).cell 2 (by omega)
  have q7d := (live_get hL Bb b (by simp)).cell 3 (by omega)
  go_wp2_with fail
  clear q6a q6b q6c q6d q7a q7b q7c q7d
  obtain ⟨B8, hBx⟩ : ∃ B, W5.heap.size = B := ⟨_, rfl⟩
  obtain ⟨V8, hVx⟩ : ∃ V, W5.alloc (.cells #[.int .u64 (q 0), .int .u64 (q 1), .int .u64 (q 2), .int .u64 (q 3)] 24) = V := ⟨_, rfl⟩
  rw [hBx, hVx] at hL
  rw [hBx, hVx]
  clear hBx hVx
  refine (add_c ha hb Xhs.out Xhos.out _).mono ?_
  rintro e W9 ⟨rfl, hB⟩
  have hL2 := live_alloc (live_below hL hB) s
  clear hB hL
  have hL := hL2
  clear hL2
  have q10a := (live_get hL Ba a (by simp)).cell 0 (by omega)
  have q10b := (live_get hL Ba a (by simp)).cell 1 (by omega)
  have q10c := (live_get hL Ba a (by simp)).cell 2 (by omega)
  have q10d := (live_get hL Ba a (by simp)).cell 3 (by omega)
  have q11a := (live_get hL Bb b (by simp)).cell 0 (by omega)
  have q11b := (live_get hL Bb b (by simp)).cell 1 (by omega)
  have q11c := (live_get hL Bb b (by simp)).cell 2 (by omega)
  have q11d := (live_get hL Bb b (by simp)).cell 3 (by omega)
  go_wp2_with fail
  clear q10a q10b q10c q10d q11a q11b q11c q11d
  obtain ⟨B12, hBx⟩ : ∃ B, W9.heap.size = B := ⟨_, rfl⟩
  obtain ⟨V12, hVx⟩ : ∃ V, W9.alloc (.cells #[.int .u64 (s 0), .int .u64 (s 1), .int .u64 (s 2), .int .u64 (s 3)] 24) = V := ⟨_, rfl⟩
  rw [hBx, hVx] at hL
  rw [hBx, hVx]
  clear hBx hVx
  refine (sub_c ha hb Xhd.out Xhod.out _).mono ?_
  rintro e W13 ⟨rfl, hB⟩
  have hL2 := live_alloc (live_below hL hB) d
  clear hB hL
  have hL := hL2
  clear hL2
  have q14a := (live_get hL B12 s (by simp)).cell 0 (by omega)
  have q14b := (live_get hL B12 s (by simp)).cell 1 (by omega)
  have q14c := (live_get hL B12 s (by simp)).cell 2 (by omega)
  have q14d := (live_get hL B12 s (by simp)).cell 3 (by omega)
  have q15a := (live_get hL W13.heap.size d (by simp)).cell 0 (by omega)
  have q15b := (live_get hL W13.heap.size d (by simp)).cell 1 (by omega)
  have q15c := (live_get hL W13.heap.size d (by simp)).cell 2 (by omega)
  have q15d := (live_get hL W13.heap.size d (by simp)).cell 3 (by omega)
  go_wp2_with fail
  clear q14a q14b q14c q14d q15a q15b q15c q15d
  obtain ⟨B16, hBx⟩ : ∃ B, W13.heap.size = B := ⟨_, rfl⟩
  obtain ⟨V16, hVx⟩ : ∃ V, W13.alloc (.cells #[.int .u64 (d 0), .int .u64 (d 1), .int .u64 (d 2), .int .u64 (d 3)] 24) = V := ⟨_, rfl⟩
  rw [hBx, hVx] at hL
  rw [hBx, hVx]
  clear hBx hVx
  refine (mul_c vs vd Xhx.out Xhox.out _).mono ?_
  rintro e W17 ⟨rfl, hB⟩
  have hL2 := live_alloc (live_below hL hB) x
  clear hB hL
  have hL := hL2
  clear hL2
  have q18a := (live_get hL B4 p (by simp)).cell 0 (by omega)
  have q18b := (live_get hL B4 p (by simp)).cell 1 (by omega)
  have q18c := (live_get hL B4 p (by simp)).cell 2 (by omega)
  have q18d := (live_get hL B4 p (by simp)).cell 3 (by omega)
  have q19a := (live_get hL B8 q (by simp)).cell 0 (by omega)
  have q19b := (live_get hL B8 q (by simp)).cell 1 (by omega)
  have q19c := (live_get hL B8 q (by simp)).cell 2 (by omega)
  have q19d := (live_get hL B8 q (by simp)).cell 3 (by omega)
  go_wp2_with fail
  clear q18a q18b q18c q18d q19a q19b q19c q19d
  obtain ⟨B20, hBx⟩ : ∃ B, W17.heap.size = B := ⟨_, rfl⟩
  obtain ⟨V20, hVx⟩ : ∃ V, W17.alloc (.cells #[.int .u64 (x 0), .int .u64 (x 1), .int .u64 (x 2), .int .u64 (x 3)] 24) = V := ⟨_, rfl⟩
  rw [hBx, hVx] at hL
  rw [hBx, hVx]
  clear hBx hVx
  refine (sub_c vp vq Xhy.out Xhoy.out _).mono ?_
  rintro e W21 ⟨rfl, hB⟩
  have hL2 := live_alloc (live_below hL hB) y
  clear hB hL
  have hL := hL2
  clear hL2
  go_wp2_with fail
  obtain ⟨B22, hBx⟩ : ∃ B, W21.heap.size = B := ⟨_, rfl⟩
  obtain ⟨V22, hVx⟩ : ∃ V, W21.alloc (.cells #[.int .u64 (y 0), .int .u64 (y 1), .int .u64 (y 2), .int .u64 (y 3)] 24) = V := ⟨_, rfl⟩
  rw [hBx, hVx] at hL
  rw [hBx, hVx]
  clear hBx hVx
  refine wp_region_held_drew (S := fun W' => Live w [(B22, y), (B20, x), (B16, d), (B12, s), (B8, q), (B4, p), (Bb, b), (Ba, a)] W') (by kernel_rfl) (live_drew hL) (fun hHeld => ?_)
  obtain ⟨D23, hW0⟩ : ∃ W0, V22.drew = W0 := ⟨_, rfl⟩
  rw [hW0] at hHeld ⊢
  clear hW0 hL
  refine wpAnyH_take (i := 0) (oi := { dst := some 53, op := Go.Op.move (Go.Operand.tmp 6), type := 4, pos := "law.go:146", after := #[], guard := none }) (v := ?_) rfl (by kernel_rfl) (by kernel_rfl) (by kernel_rfl) (fun _ _ _ h => h) (Or.inl ⟨by rfl, ?_⟩) (by assumption) ?_
  rotate_left
  · intro w hSw
    go_simp
    try with_reducible rfl
  try simp only [Act.put, List.setIfInBounds_toArray, List.set_cons_zero, List.set_cons_succ]
  refine wpAnyH_take (i := 1) (oi := { dst := some 54, op := Go.Op.unOp Go.UnOp.not 4 (Go.Operand.tmp 53), type := 4, pos := "law.go:146", after := #[{ on := 0, ground := Go.Ground.data }], guard := none }) (v := ?_) rfl (by kernel_rfl) (by kernel_rfl) (by kernel_rfl) (fun _ _ _ h => h) (Or.inl ⟨by rfl, ?_⟩) (by assumption) ?_
  rotate_left
  · intro w hSw
    go_simp
    try with_reducible rfl
  try simp only [Act.put, List.setIfInBounds_toArray, List.set_cons_zero, List.set_cons_succ]
  refine wpAnyH_take (i := 2) (oi := { dst := some 55, op := Go.Op.move (Go.Operand.tmp 54), type := 4, pos := "law.go:146", after := #[{ on := 1, ground := Go.Ground.data }], guard := none }) (v := ?_) rfl (by kernel_rfl) (by kernel_rfl) (by kernel_rfl) (fun _ _ _ h => h) (Or.inl ⟨by rfl, ?_⟩) (by assumption) ?_
  rotate_left
  · intro w hSw
    go_simp
    try with_reducible rfl
  try simp only [Act.put, List.setIfInBounds_toArray, List.set_cons_zero, List.set_cons_succ]
  refine wpAnyH_take (i := 3) (oi := { dst := some 56, op := Go.Op.load 24 (Go.Operand.tmp 5), type := 24, pos := "law.go:146", after := #[{ on := 2, ground := Go.Ground.guard }], guard := some (2, true) }) (v := ?_) rfl (by kernel_rfl) (by kernel_rfl) (by kernel_rfl) (fun _ _ _ h => h) (Or.inl ⟨by rfl, ?_⟩) (by assumption) ?_
  rotate_left
  · intro w hSw
    have k0 := (live_get hSw B4 p (by simp)).cell 0 (by omega)
    have k1 := (live_get hSw B4 p (by simp)).cell 1 (by omega)
    have k2 := (live_get hSw B4 p (by simp)).cell 2 (by omega)
    have k3 := (live_get hSw B4 p (by simp)).cell 3 (by omega)
    go_simp
    try with_reducible rfl
  try simp only [Act.put, List.setIfInBounds_toArray, List.set_cons_zero, List.set_cons_succ]
  refine wpAnyH_ready (rs := [4]) (by kernel_rfl) (by simp) ?_
  refine AllReadyH.cons (o := { dst := some 57, op := Go.Op.call { callee := Go.Callee.value (Go.Operand.func 25), args := #[Go.Operand.tmp 56], argTypes := #[24] }, type := 3, pos := "law.go:146", after := #[{ on := 3, ground := Go.Ground.data }, { on := 2, ground := Go.Ground.chain }, { on := 2, ground := Go.Ground.guard }], guard := some (2, true) }) rfl (fun K hK => ?_) AllReadyH.nil
  go_simp
  refine (sign_c vp Xhsp0.out _).mono ?_
  rintro e W24 ⟨rfl, hBl⟩
  refine hK.out _ _ ?_ (fun hHeld2 => ?_)
  · exact live_below hHeld hBl
  clear hK K hHeld
  have hHeld := hHeld2
  clear hHeld2
  try simp only [Act.put, List.setIfInBounds_toArray, List.set_cons_zero, List.set_cons_succ]
  refine wpAnyH_take (i := 5) (oi := { dst := some 58, op := Go.Op.binOp Go.BinOp.lss 3 (Go.Operand.tmp 57) (Go.Operand.const (Go.Value.int Go.IntKind.i64 0)) 3, type := 4, pos := "law.go:146", after := #[{ on := 4, ground := Go.Ground.data }, { on := 2, ground := Go.Ground.guard }], guard := some (2, true) }) (v := ?_) rfl (by kernel_rfl) (by kernel_rfl) (by kernel_rfl) (fun _ _ _ h => h) (Or.inl ⟨by rfl, ?_⟩) (by assumption) ?_
  rotate_left
  · intro w hSw
    go_simp
    try with_reducible rfl
  try simp only [Act.put, List.setIfInBounds_toArray, List.set_cons_zero, List.set_cons_succ]
  refine wpAnyH_take (i := 6) (oi := { dst := some 59, op := Go.Op.pick (Go.Operand.tmp 55) (Go.Operand.tmp 58) (Go.Operand.const (Go.Value.bool false)), type := 4, pos := "law.go:146", after := #[{ on := 2, ground := Go.Ground.data }, { on := 5, ground := Go.Ground.data }], guard := none }) (v := ?_) rfl (by kernel_rfl) (by kernel_rfl) (by kernel_rfl) (fun _ _ _ h => h) (Or.inl ⟨by rfl, ?_⟩) (by assumption) ?_
  rotate_left
  · intro w hSw
    go_simp
    try with_reducible rfl
  try simp only [Act.put, List.setIfInBounds_toArray, List.set_cons_zero, List.set_cons_succ]
  refine wpAnyH_take (i := 7) (oi := { dst := some 60, op := Go.Op.move (Go.Operand.tmp 59), type := 4, pos := "law.go:146", after := #[{ on := 6, ground := Go.Ground.data }, { on := 4, ground := Go.Ground.chain }], guard := none }) (v := ?_) rfl (by kernel_rfl) (by kernel_rfl) (by kernel_rfl) (fun _ _ _ h => h) (Or.inl ⟨by rfl, ?_⟩) (by assumption) ?_
  rotate_left
  · intro w hSw
    go_simp
    try with_reducible rfl
  try simp only [Act.put, List.setIfInBounds_toArray, List.set_cons_zero, List.set_cons_succ]
  refine wpAnyH_take (i := 8) (oi := { dst := some 61, op := Go.Op.move (Go.Operand.tmp 6), type := 4, pos := "law.go:146", after := #[{ on := 7, ground := Go.Ground.guard }], guard := some (7, false) }) (v := ?_) rfl (by kernel_rfl) (by kernel_rfl) (by kernel_rfl) (fun _ _ _ h => h) (Or.inl ⟨by rfl, ?_⟩) (by assumption) ?_
  rotate_left
  · intro w hSw
    go_simp
    try with_reducible rfl
  try simp only [Act.put, List.setIfInBounds_toArray, List.set_cons_zero, List.set_cons_succ]
  refine wpAnyH_take (i := 9) (oi := { dst := some 62, op := Go.Op.unOp Go.UnOp.not 4 (Go.Operand.tmp 61), type := 4, pos := "law.go:146", after := #[{ on := 8, ground := Go.Ground.data }, { on := 7, ground := Go.Ground.guard }], guard := some (7, false) }) (v := ?_) rfl (by kernel_rfl) (by kernel_rfl) (by kernel_rfl) (fun _ _ _ h => h) (Or.inl ⟨by rfl, ?_⟩) (by assumption) ?_
  rotate_left
  · intro w hSw
    go_simp
    try with_reducible rfl
  try simp only [Act.put, List.setIfInBounds_toArray, List.set_cons_zero, List.set_cons_succ]
  refine wpAnyH_take (i := 10) (oi := { dst := some 63, op := Go.Op.move (Go.Operand.tmp 62), type := 4, pos := "law.go:146", after := #[{ on := 9, ground := Go.Ground.data }, { on := 7, ground := Go.Ground.chain }, { on := 7, ground := Go.Ground.guard }], guard := some (7, false) }) (v := ?_) rfl (by kernel_rfl) (by kernel_rfl) (by kernel_rfl) (fun _ _ _ h => h) (Or.inl ⟨by rfl, ?_⟩) (by assumption) ?_
  rotate_left
  · intro w hSw
    go_simp
    try with_reducible rfl
  try simp only [Act.put, List.setIfInBounds_toArray, List.set_cons_zero, List.set_cons_succ]
  refine wpAnyH_take (i := 11) (oi := { dst := some 64, op := Go.Op.move (Go.Operand.tmp 8), type := 4, pos := "law.go:146", after := #[{ on := 10, ground := Go.Ground.guard }], guard := some (10, true) }) (v := ?_) rfl (by kernel_rfl) (by kernel_rfl) (by kernel_rfl) (fun _ _ _ h => h) (Or.inl ⟨by rfl, ?_⟩) (by assumption) ?_
  rotate_left
  · intro w hSw
    go_simp
    try with_reducible rfl
  try simp only [Act.put, List.setIfInBounds_toArray, List.set_cons_zero, List.set_cons_succ]
  refine wpAnyH_take (i := 12) (oi := { dst := some 65, op := Go.Op.unOp Go.UnOp.not 4 (Go.Operand.tmp 64), type := 4, pos := "law.go:146", after := #[{ on := 11, ground := Go.Ground.data }, { on := 10, ground := Go.Ground.guard }], guard := some (10, true) }) (v := ?_) rfl (by kernel_rfl) (by kernel_rfl) (by kernel_rfl) (fun _ _ _ h => h) (Or.inl ⟨by rfl, ?_⟩) (by assumption) ?_
  rotate_left
  · intro w hSw
    go_simp
    try with_reducible rfl
  try simp only [Act.put, List.setIfInBounds_toArray, List.set_cons_zero, List.set_cons_succ]
  refine wpAnyH_take (i := 13) (oi := { dst := some 66, op := Go.Op.pick (Go.Operand.tmp 63) (Go.Operand.tmp 65) (Go.Operand.const (Go.Value.bool false)), type := 4, pos := "law.go:146", after := #[{ on := 10, ground := Go.Ground.data }, { on := 12, ground := Go.Ground.data }, { on := 7, ground := Go.Ground.guard }], guard := some (7, false) }) (v := ?_) rfl (by kernel_rfl) (by kernel_rfl) (by kernel_rfl) (fun _ _ _ h => h) (Or.inl ⟨by rfl, ?_⟩) (by assumption) ?_
  rotate_left
  · intro w hSw
    go_simp
    try with_reducible rfl
  try simp only [Act.put, List.setIfInBounds_toArray, List.set_cons_zero, List.set_cons_succ]
  refine wpAnyH_take (i := 14) (oi := { dst := some 67, op := Go.Op.move (Go.Operand.tmp 66), type := 4, pos := "law.go:146", after := #[{ on := 13, ground := Go.Ground.data }, { on := 10, ground := Go.Ground.chain }, { on := 7, ground := Go.Ground.guard }], guard := some (7, false) }) (v := ?_) rfl (by kernel_rfl) (by kernel_rfl) (by kernel_rfl) (fun _ _ _ h => h) (Or.inl ⟨by rfl, ?_⟩) (by assumption) ?_
  rotate_left
  · intro w hSw
    go_simp
    try with_reducible rfl
  try simp only [Act.put, List.setIfInBounds_toArray, List.set_cons_zero, List.set_cons_succ]
  refine wpAnyH_take (i := 15) (oi := { dst := some 68, op := Go.Op.load 24 (Go.Operand.tmp 2), type := 24, pos := "law.go:146", after := #[{ on := 14, ground := Go.Ground.guard }], guard := some (14, true) }) (v := ?_) rfl (by kernel_rfl) (by kernel_rfl) (by kernel_rfl) (fun _ _ _ h => h) (Or.inl ⟨by rfl, ?_⟩) (by assumption) ?_
  rotate_left
  · intro w hSw
    have k0 := (live_get hSw Ba a (by simp)).cell 0 (by omega)
    have k1 := (live_get hSw Ba a (by simp)).cell 1 (by omega)
    have k2 := (live_get hSw Ba a (by simp)).cell 2 (by omega)
    have k3 := (live_get hSw Ba a (by simp)).cell 3 (by omega)
    go_simp
    try with_reducible rfl
  try simp only [Act.put, List.setIfInBounds_toArray, List.set_cons_zero, List.set_cons_succ]
  refine wpAnyH_ready (rs := [16]) (by kernel_rfl) (by simp) ?_
  refine AllReadyH.cons (o := { dst := some 69, op := Go.Op.call { callee := Go.Callee.value (Go.Operand.func 25), args := #[Go.Operand.tmp 68], argTypes := #[24] }, type := 3, pos := "law.go:146", after := #[{ on := 15, ground := Go.Ground.data }, { on := 14, ground := Go.Ground.chain }, { on := 14, ground := Go.Ground.guard }], guard := some (14, true) }) rfl (fun K hK => ?_) AllReadyH.nil
  go_simp
  refine (sign_c ha Xhsa0.out _).mono ?_
  rintro e W25 ⟨rfl, hBl⟩
  refine hK.out _ _ ?_ (fun hHeld2 => ?_)
  · exact live_below hHeld hBl
  clear hK K hHeld
  have hHeld := hHeld2
  clear hHeld2
  try simp only [Act.put, List.setIfInBounds_toArray, List.set_cons_zero, List.set_cons_succ]
  refine wpAnyH_take (i := 17) (oi := { dst := some 70, op := Go.Op.binOp Go.BinOp.geq 3 (Go.Operand.tmp 69) (Go.Operand.const (Go.Value.int Go.IntKind.i64 0)) 3, type := 4, pos := "law.go:146", after := #[{ on := 16, ground := Go.Ground.data }, { on := 14, ground := Go.Ground.guard }], guard := some (14, true) }) (v := ?_) rfl (by kernel_rfl) (by kernel_rfl) (by kernel_rfl) (fun _ _ _ h => h) (Or.inl ⟨by rfl, ?_⟩) (by assumption) ?_
  rotate_left
  · intro w hSw
    go_simp
    try with_reducible rfl
  try simp only [Act.put, List.setIfInBounds_toArray, List.set_cons_zero, List.set_cons_succ]
  refine wpAnyH_take (i := 18) (oi := { dst := some 71, op := Go.Op.pick (Go.Operand.tmp 67) (Go.Operand.tmp 70) (Go.Operand.const (Go.Value.bool false)), type := 4, pos := "law.go:146", after := #[{ on := 14, ground := Go.Ground.data }, { on := 17, ground := Go.Ground.data }, { on := 7, ground := Go.Ground.guard }], guard := some (7, false) }) (v := ?_) rfl (by kernel_rfl) (by kernel_rfl) (by kernel_rfl) (fun _ _ _ h => h) (Or.inl ⟨by rfl, ?_⟩) (by assumption) ?_
  rotate_left
  · intro w hSw
    go_simp
    try with_reducible rfl
  try simp only [Act.put, List.setIfInBounds_toArray, List.set_cons_zero, List.set_cons_succ]
  refine wpAnyH_take (i := 19) (oi := { dst := some 72, op := Go.Op.move (Go.Operand.tmp 71), type := 4, pos := "law.go:146", after := #[{ on := 18, ground := Go.Ground.data }, { on := 16, ground := Go.Ground.chain }, { on := 7, ground := Go.Ground.guard }], guard := some (7, false) }) (v := ?_) rfl (by kernel_rfl) (by kernel_rfl) (by kernel_rfl) (fun _ _ _ h => h) (Or.inl ⟨by rfl, ?_⟩) (by assumption) ?_
  rotate_left
  · intro w hSw
    go_simp
    try with_reducible rfl
  try simp only [Act.put, List.setIfInBounds_toArray, List.set_cons_zero, List.set_cons_succ]
  refine wpAnyH_take (i := 20) (oi := { dst := some 73, op := Go.Op.load 24 (Go.Operand.tmp 3), type := 24, pos := "law.go:146", after := #[{ on := 19, ground := Go.Ground.guard }], guard := some (19, true) }) (v := ?_) rfl (by kernel_rfl) (by kernel_rfl) (by kernel_rfl) (fun _ _ _ h => h) (Or.inl ⟨by rfl, ?_⟩) (by assumption) ?_
  rotate_left
  · intro w hSw
    have k0 := (live_get hSw Bb b (by simp)).cell 0 (by omega)
    have k1 := (live_get hSw Bb b (by simp)).cell 1 (by omega)
    have k2 := (live_get hSw Bb b (by simp)).cell 2 (by omega)
    have k3 := (live_get hSw Bb b (by simp)).cell 3 (by omega)
    go_simp
    try with_reducible rfl
  try simp only [Act.put, List.setIfInBounds_toArray, List.set_cons_zero, List.set_cons_succ]
  refine wpAnyH_ready (rs := [21]) (by kernel_rfl) (by simp) ?_
  refine AllReadyH.cons (o := { dst := some 74, op := Go.Op.call { callee := Go.Callee.value (Go.Operand.func 25), args := #[Go.Operand.tmp 73], argTypes := #[24] }, type := 3, pos := "law.go:146", after := #[{ on := 20, ground := Go.Ground.data }, { on := 19, ground := Go.Ground.chain }, { on := 19, ground := Go.Ground.guard }], guard := some (19, true) }) rfl (fun K hK => ?_) AllReadyH.nil
  go_simp
  refine (sign_c hb Xhsb0.out _).mono ?_
  rintro e W26 ⟨rfl, hBl⟩
  refine hK.out _ _ ?_ (fun hHeld2 => ?_)
  · exact live_below hHeld hBl
  clear hK K hHeld
  have hHeld := hHeld2
  clear hHeld2
  try simp only [Act.put, List.setIfInBounds_toArray, List.set_cons_zero, List.set_cons_succ]
  refine wpAnyH_take (i := 22) (oi := { dst := some 75, op := Go.Op.binOp Go.BinOp.geq 3 (Go.Operand.tmp 74) (Go.Operand.const (Go.Value.int Go.IntKind.i64 0)) 3, type := 4, pos := "law.go:146", after := #[{ on := 21, ground := Go.Ground.data }, { on := 19, ground := Go.Ground.guard }], guard := some (19, true) }) (v := ?_) rfl (by kernel_rfl) (by kernel_rfl) (by kernel_rfl) (fun _ _ _ h => h) (Or.inl ⟨by rfl, ?_⟩) (by assumption) ?_
  rotate_left
  · intro w hSw
    go_simp
    try with_reducible rfl
  try simp only [Act.put, List.setIfInBounds_toArray, List.set_cons_zero, List.set_cons_succ]
  refine wpAnyH_take (i := 23) (oi := { dst := some 76, op := Go.Op.pick (Go.Operand.tmp 72) (Go.Operand.tmp 75) (Go.Operand.const (Go.Value.bool false)), type := 4, pos := "law.go:146", after := #[{ on := 19, ground := Go.Ground.data }, { on := 22, ground := Go.Ground.data }, { on := 7, ground := Go.Ground.guard }], guard := some (7, false) }) (v := ?_) rfl (by kernel_rfl) (by kernel_rfl) (by kernel_rfl) (fun _ _ _ h => h) (Or.inl ⟨by rfl, ?_⟩) (by assumption) ?_
  rotate_left
  · intro w hSw
    go_simp
    try with_reducible rfl
  try simp only [Act.put, List.setIfInBounds_toArray, List.set_cons_zero, List.set_cons_succ]
  refine wpAnyH_take (i := 24) (oi := { dst := some 77, op := Go.Op.move (Go.Operand.tmp 76), type := 4, pos := "law.go:146", after := #[{ on := 23, ground := Go.Ground.data }, { on := 21, ground := Go.Ground.chain }, { on := 7, ground := Go.Ground.guard }], guard := some (7, false) }) (v := ?_) rfl (by kernel_rfl) (by kernel_rfl) (by kernel_rfl) (fun _ _ _ h => h) (Or.inl ⟨by rfl, ?_⟩) (by assumption) ?_
  rotate_left
  · intro w hSw
    go_simp
    try with_reducible rfl
  try simp only [Act.put, List.setIfInBounds_toArray, List.set_cons_zero, List.set_cons_succ]
  refine wpAnyH_take (i := 25) (oi := { dst := some 78, op := Go.Op.load 24 (Go.Operand.tmp 5), type := 24, pos := "law.go:146", after := #[{ on := 24, ground := Go.Ground.guard }], guard := some (24, true) }) (v := undef) rfl (by kernel_rfl) (by kernel_rfl) (by kernel_rfl) (fun _ _ _ h => h) (Or.inr ⟨by rfl, rfl⟩) (by assumption) ?_
  try simp only [Act.put, List.setIfInBounds_toArray, List.set_cons_zero, List.set_cons_succ]
  refine wpAnyH_take (i := 26) (oi := { dst := some 79, op := Go.Op.load 24 (Go.Operand.tmp 7), type := 24, pos := "law.go:146", after := #[{ on := 24, ground := Go.Ground.guard }], guard := some (24, true) }) (v := undef) rfl (by kernel_rfl) (by kernel_rfl) (by kernel_rfl) (fun _ _ _ h => h) (Or.inr ⟨by rfl, rfl⟩) (by assumption) ?_
  try simp only [Act.put, List.setIfInBounds_toArray, List.set_cons_zero, List.set_cons_succ]
  refine wpAnyH_take (i := 28) (oi := { dst := some 81, op := Go.Op.load 24 (Go.Operand.tmp 2), type := 24, pos := "law.go:146", after := #[{ on := 24, ground := Go.Ground.guard }], guard := some (24, true) }) (v := undef) rfl (by kernel_rfl) (by kernel_rfl) (by kernel_rfl) (fun _ _ _ h => h) (Or.inr ⟨by rfl, rfl⟩) (by assumption) ?_
  try simp only [Act.put, List.setIfInBounds_toArray, List.set_cons_zero, List.set_cons_succ]
  refine wpAnyH_take (i := 29) (oi := { dst := some 82, op := Go.Op.load 24 (Go.Operand.tmp 3), type := 24, pos := "law.go:146", after := #[{ on := 24, ground := Go.Ground.guard }], guard := some (24, true) }) (v := undef) rfl (by kernel_rfl) (by kernel_rfl) (by kernel_rfl) (fun _ _ _ h => h) (Or.inr ⟨by rfl, rfl⟩) (by assumption) ?_
  try simp only [Act.put, List.setIfInBounds_toArray, List.set_cons_zero, List.set_cons_succ]
  refine wpAnyH_ready (rs := [27]) (by kernel_rfl) (by simp) ?_
  refine AllReadyH.cons (o := { dst := some 80, op := Go.Op.call { callee := Go.Callee.value (Go.Operand.func 23), args := #[Go.Operand.tmp 78, Go.Operand.tmp 79], argTypes := #[24, 24] }, type := 3, pos := "law.go:146", after := #[{ on := 25, ground := Go.Ground.data }, { on := 26, ground := Go.Ground.data }, { on := 24, ground := Go.Ground.chain }, { on := 24, ground := Go.Ground.guard }], guard := some (24, true) }) rfl (fun K hK => ?_) AllReadyH.nil
  go_simp
  refine hK.out _ _ ?_ (fun hHeld2 => ?_)
  · exact hHeld
  clear hK K hHeld
  have hHeld := hHeld2
  clear hHeld2
  try simp only [Act.put, List.setIfInBounds_toArray, List.set_cons_zero, List.set_cons_succ]
  refine wpAnyH_ready (rs := [30]) (by kernel_rfl) (by simp) ?_
  refine AllReadyH.cons (o := { dst := some 83, op := Go.Op.call { callee := Go.Callee.value (Go.Operand.func 23), args := #[Go.Operand.tmp 81, Go.Operand.tmp 82], argTypes := #[24, 24] }, type := 3, pos := "law.go:146", after := #[{ on := 28, ground := Go.Ground.data }, { on := 29, ground := Go.Ground.data }, { on := 27, ground := Go.Ground.chain }, { on := 24, ground := Go.Ground.guard }], guard := some (24, true) }) rfl (fun K hK => ?_) AllReadyH.nil
  go_simp
  refine hK.out _ _ ?_ (fun hHeld2 => ?_)
  · exact hHeld
  clear hK K hHeld
  have hHeld := hHeld2
  clear hHeld2
  try simp only [Act.put, List.setIfInBounds_toArray, List.set_cons_zero, List.set_cons_succ]
  refine wpAnyH_take (i := 31) (oi := { dst := some 84, op := Go.Op.binOp Go.BinOp.neq 3 (Go.Operand.tmp 80) (Go.Operand.tmp 83) 3, type := 4, pos := "law.go:146", after := #[{ on := 27, ground := Go.Ground.data }, { on := 30, ground := Go.Ground.data }, { on := 24, ground := Go.Ground.guard }], guard := some (24, true) }) (v := undef) rfl (by kernel_rfl) (by kernel_rfl) (by kernel_rfl) (fun _ _ _ h => h) (Or.inr ⟨by rfl, rfl⟩) (by assumption) ?_
  try simp only [Act.put, List.setIfInBounds_toArray, List.set_cons_zero, List.set_cons_succ]
  refine wpAnyH_take (i := 32) (oi := { dst := some 85, op := Go.Op.pick (Go.Operand.tmp 77) (Go.Operand.tmp 84) (Go.Operand.const (Go.Value.bool false)), type := 4, pos := "law.go:146", after := #[{ on := 24, ground := Go.Ground.data }, { on := 31, ground := Go.Ground.data }, { on := 7, ground := Go.Ground.guard }], guard := some (7, false) }) (v := ?_) rfl (by kernel_rfl) (by kernel_rfl) (by kernel_rfl) (fun _ _ _ h => h) (Or.inl ⟨by rfl, ?_⟩) (by assumption) ?_
  rotate_left
  · intro w hSw
    go_simp
    try with_reducible rfl
  try simp only [Act.put, List.setIfInBounds_toArray, List.set_cons_zero, List.set_cons_succ]
  refine wpAnyH_take (i := 33) (oi := { dst := some 86, op := Go.Op.pick (Go.Operand.tmp 60) (Go.Operand.const (Go.Value.bool true)) (Go.Operand.tmp 85), type := 4, pos := "law.go:146", after := #[{ on := 7, ground := Go.Ground.data }, { on := 32, ground := Go.Ground.data }], guard := none }) (v := ?_) rfl (by kernel_rfl) (by kernel_rfl) (by kernel_rfl) (fun _ _ _ h => h) (Or.inl ⟨by rfl, ?_⟩) (by assumption) ?_
  rotate_left
  · intro w hSw
    go_simp
    try with_reducible rfl
  try simp only [Act.put, List.setIfInBounds_toArray, List.set_cons_zero, List.set_cons_succ]
  refine wpAnyH_done (by kernel_rfl) ?_ _
  have hL := hHeld
  clear hHeld
  have q27a := (live_get hL B20 x (by simp)).cell 0 (by omega)
  have q27b := (live_get hL B20 x (by simp)).cell 1 (by omega)
  have q27c := (live_get hL B20 x (by simp)).cell 2 (by omega)
  have q27d := (live_get hL B20 x (by simp)).cell 3 (by omega)
  have q28a := (live_get hL B22 y (by simp)).cell 0 (by omega)
  have q28b := (live_get hL B22 y (by simp)).cell 1 (by omega)
  have q28c := (live_get hL B22 y (by simp)).cell 2 (by omega)
  have q28d := (live_get hL B22 y (by simp)).cell 3 (by omega)
  go_wp2_with fail
  clear q27a q27b q27c q27d q28a q28b q28c q28d
  refine (wakes_x _).mono ?_
  rintro e W29 ⟨rfl, hB⟩
  have hL2 := live_below hL hB
  clear hB hL
  have hL := hL2
  clear hL2
  go_wp2
  go_ret
  exact ⟨rfl, hL.2⟩

set_option maxRecDepth 100000 in
set_option maxHeartbeats 4000000 in
theorem sq_5 (a b p q s d x y : Nat → Nat) (o2 os od ox oy : Bool) (sp sa sb c1 c2 : Int) (ha : Wds a) (hb : Wds b) (vp : Wds p) (vq : Wds q) (vs : Wds s) (vd : Wds d)
    (hp : mulR a a = p) (hq : mulR b b = q) (hs : addR a b = s) (hd : subR a b = d) (hx : mulR s d = x) (hy : subR p q = y) (hos : addO a b = os) (hod : subO a b = od) (hox : mulO s d = ox) (hoy : subO p q = oy)
    (hsp0 : signI p = sp) (hsa0 : signI a = sa) (hsb0 : signI b = sb) (hc1 : cmpR p q = c1) (hc2 : cmpR a b = c1) (he : eqB x y = true)
    (ho1 : mulO a a = false) (ho2 : mulO b b = false) (hsp : decide (sp < 0) = false) (hsa : decide (0 ≤ sa) = true) (hsb : decide (0 ≤ sb) = true) (w : World) :
    Calls Try.prog 7 #[.agg #[.int .u64 (a 0), .int .u64 (a 1), .int .u64 (a 2), .int .u64 (a 3)], .agg #[.int .u64 (b 0), .int .u64 (b 1), .int .u64 (b 2), .int .u64 (b 3)]] w fun e w' => e = .returned (.bool true) ∧ Below w.heap.size w w' := by
  have E := fun w => eq_c he w
  have hL := live_alloc (live_alloc (live_nil w) a) b
  simp only [World.size_alloc] at hL
  have Xhp := Lib.hid hp
  have Xhq := Lib.hid hq
  have Xhs := Lib.hid hs
  have Xhd := Lib.hid hd
  have Xhx := Lib.hid hx
  have Xhy := Lib.hid hy
  have Xhos := Lib.hid hos
  have Xhod := Lib.hid hod
  have Xhox := Lib.hid hox
  have Xhoy := Lib.hid hoy
  have Xhsp0 := Lib.hid hsp0
  have Xhsa0 := Lib.hid hsa0
  have Xhsb0 := Lib.hid hsb0
  have Xhc1 := Lib.hid hc1
  have Xhc2 := Lib.hid hc2
  have Xhe := Lib.hid he
  have Xho1 := Lib.hid ho1
  have Xho2 := Lib.hid ho2
  clear hp hq hs hd hx hy hos hod hox hoy hsp0 hsa0 hsb0 hc1 hc2 he ho1 ho2
  go_enter Try.func7, Try.ntmps7
  go_wp2_with fail
  obtain ⟨V0, hV0⟩ : ∃ V, (w.alloc (.cells #[.int .u64 (a 0), .int .u64 (a 1), .int .u64 (a 2), .int .u64 (a 3)] 24)).alloc (.cells #[.int .u64 (b 0), .int .u64 (b 1), .int .u64 (b 2), .int .u64 (b 3)] 24) = V := ⟨_, rfl⟩
  rw [hV0] at hL ⊢
  obtain ⟨Bb, hBb⟩ : ∃ B, w.heap.size + 1 = B := ⟨_, rfl⟩
  rw [hBb] at hL ⊢
  obtain ⟨Ba, hBa⟩ : ∃ B, w.heap.size = B := ⟨_, rfl⟩
  rw [hBa] at hL ⊢
  clear hV0 hBb hBa
  refine (mul_c ha ha Xhp.out Xho1.out _).mono ?_
  rintro e W2 ⟨rfl, hB⟩
  have hL2 := live_alloc (live_below hL hB) p
  clear hB hL
  have hL := hL2
  clear hL2
  have q3a := (live_get hL Bb b (by simp)).cell 0 (by omega)
  have q3b := (live_get hL Bb b (by simp)).cell 1 (by omega)
  have q3c := (live_get hL Bb b (by simp)).cell 2 (by omega)
  have q3d := (live_get hL Bb b (by simp)).cell 3 (by omega)
  go_wp2_with fail
  clear q3a q3b q3c q3d
  obtain ⟨B4, hBx⟩ : ∃ B, W2.heap.size = B := ⟨_, rfl⟩
  obtain ⟨V4, hVx⟩ : ∃ V, W2.alloc (.cells #[.int .u64 (p 0), .int .u64 (p 1), .int .u64 (p 2), .int .u64 (p 3)] 24) = V := ⟨_, rfl⟩
  rw [hBx, hVx] at hL
  rw [hBx, hVx]
  clear hBx hVx
  refine (mul_c hb hb Xhq.out Xho2.out _).mono ?_
  rintro e W5 ⟨rfl, hB⟩
  have hL2 := live_alloc (live_below hL hB) q
  clear hB hL
  have hL := hL2
  clear hL2
  have q6a := (live_get hL Ba a (by simp)).cell 0 (by omega)
  have q6b := (live_get hL Ba a (by simp)).cell 1 (by omega)
  have q6c := (live_get hL Ba a (by simp)).cell 2 (by omega)
  have q6d := (live_get hL Ba a (by simp)).cell 3 (by omega)
  have q7a := (live_get hL Bb b (by simp)).cell 0 (by omega)
  have q7b := (live_get hL Bb b (by simp)).cell 1 (by omega)
  have q7c := (live_get hL Bb b (by simp)).cell 2 (by omega)
  have q7d := (live_get hL Bb b (by simp)).cell 3 (by omega)
  go_wp2_with fail
  clear q6a q6b q6c q6d q7a q7b q7c q7d
  obtain ⟨B8, hBx⟩ : ∃ B, W5.heap.size = B := ⟨_, rfl⟩
  obtain ⟨V8, hVx⟩ : ∃ V, W5.alloc (.cells #[.int .u64 (q 0), .int .u64 (q 1), .int .u64 (q 2), .int .u64 (q 3)] 24) = V := ⟨_, rfl⟩
  rw [hBx, hVx] at hL
  rw [hBx, hVx]
  clear hBx hVx
  refine (add_c ha hb Xhs.out Xhos.out _).mono ?_
  rintro e W9 ⟨rfl, hB⟩
  have hL2 := live_alloc (live_below hL hB) s
  clear hB hL
  have hL := hL2
  clear hL2
  have q10a := (live_get hL Ba a (by simp)).cell 0 (by omega)
  have q10b := (live_get hL Ba a (by simp)).cell 1 (by omega)
  have q10c := (live_get hL Ba a (by simp)).cell 2 (by omega)
  have q10d := (live_get hL Ba a (by simp)).cell 3 (by omega)
  have q11a := (live_get hL Bb b (by simp)).cell 0 (by omega)
  have q11b := (live_get hL Bb b (by simp)).cell 1 (by omega)
  have q11c := (live_get hL Bb b (by simp)).cell 2 (by omega)
  have q11d := (live_get hL Bb b (by simp)).cell 3 (by omega)
  go_wp2_with fail
  clear q10a q10b q10c q10d q11a q11b q11c q11d
  obtain ⟨B12, hBx⟩ : ∃ B, W9.heap.size = B := ⟨_, rfl⟩
  obtain ⟨V12, hVx⟩ : ∃ V, W9.alloc (.cells #[.int .u64 (s 0), .int .u64 (s 1), .int .u64 (s 2), .int .u64 (s 3)] 24) = V := ⟨_, rfl⟩
  rw [hBx, hVx] at hL
  rw [hBx, hVx]
  clear hBx hVx
  refine (sub_c ha hb Xhd.out Xhod.out _).mono ?_
  rintro e W13 ⟨rfl, hB⟩
  have hL2 := live_alloc (live_below hL hB) d
  clear hB hL
  have hL := hL2
  clear hL2
  have q14a := (live_get hL B12 s (by simp)).cell 0 (by omega)
  have q14b := (live_get hL B12 s (by simp)).cell 1 (by omega)
  have q14c := (live_get hL B12 s (by simp)).cell 2 (by omega)
  have q14d := (live_get hL B12 s (by simp)).cell 3 (by omega)
  have q15a := (live_get hL W13.heap.size d (by simp)).cell 0 (by omega)
  have q15b := (live_get hL W13.heap.size d (by simp)).cell 1 (by omega)
  have q15c := (live_get hL W13.heap.size d (by simp)).cell 2 (by omega)
  have q15d := (live_get hL W13.heap.size d (by simp)).cell 3 (by omega)
  go_wp2_with fail
  clear q14a q14b q14c q14d q15a q15b q15c q15d
  obtain ⟨B16, hBx⟩ : ∃ B, W13.heap.size = B := ⟨_, rfl⟩
  obtain ⟨V16, hVx⟩ : ∃ V, W13.alloc (.cells #[.int .u64 (d 0), .int .u64 (d 1), .int .u64 (d 2), .int .u64 (d 3)] 24) = V := ⟨_, rfl⟩
  rw [hBx, hVx] at hL
  rw [hBx, hVx]
  clear hBx hVx
  refine (mul_c vs vd Xhx.out Xhox.out _).mono ?_
  rintro e W17 ⟨rfl, hB⟩
  have hL2 := live_alloc (live_below hL hB) x
  clear hB hL
  have hL := hL2
  clear hL2
  have q18a := (live_get hL B4 p (by simp)).cell 0 (by omega)
  have q18b := (live_get hL B4 p (by simp)).cell 1 (by omega)
  have q18c := (live_get hL B4 p (by simp)).cell 2 (by omega)
  have q18d := (live_get hL B4 p (by simp)).cell 3 (by omega)
  have q19a := (live_get hL B8 q (by simp)).cell 0 (by omega)
  have q19b := (live_get hL B8 q (by simp)).cell 1 (by omega)
  have q19c := (live_get hL B8 q (by simp)).cell 2 (by omega)
  have q19d := (live_get hL B8 q (by simp)).cell 3 (by omega)
  go_wp2_with fail
  clear q18a q18b q18c q18d q19a q19b q19c q19d
  obtain ⟨B20, hBx⟩ : ∃ B, W17.heap.size = B := ⟨_, rfl⟩
  obtain ⟨V20, hVx⟩ : ∃ V, W17.alloc (.cells #[.int .u64 (x 0), .int .u64 (x 1), .int .u64 (x 2), .int .u64 (x 3)] 24) = V := ⟨_, rfl⟩
  rw [hBx, hVx] at hL
  rw [hBx, hVx]
  clear hBx hVx
  refine (sub_c vp vq Xhy.out Xhoy.out _).mono ?_
  rintro e W21 ⟨rfl, hB⟩
  have hL2 := live_alloc (live_below hL hB) y
  clear hB hL
  have hL := hL2
  clear hL2
  go_wp2_with fail
  obtain ⟨B22, hBx⟩ : ∃ B, W21.heap.size = B := ⟨_, rfl⟩
  obtain ⟨V22, hVx⟩ : ∃ V, W21.alloc (.cells #[.int .u64 (y 0), .int .u64 (y 1), .int .u64 (y 2), .int .u64 (y 3)] 24) = V := ⟨_, rfl⟩
  rw [hBx, hVx] at hL
  rw [hBx, hVx]
  clear hBx hVx
  refine wp_region_held_drew (S := fun W' => Live w [(B22, y), (B20, x), (B16, d), (B12, s), (B8, q), (B4, p), (Bb, b), (Ba, a)] W') (by kernel_rfl) (live_drew hL) (fun hHeld => ?_)
  obtain ⟨D23, hW0⟩ : ∃ W0, V22.drew = W0 := ⟨_, rfl⟩
  rw [hW0] at hHeld ⊢
  clear hW0 hL
  refine wpAnyH_take (i := 0) (oi := { dst := some 53, op := Go.Op.move (Go.Operand.tmp 6), type := 4, pos := "law.go:146", after := #[], guard := none }) (v := ?_) rfl (by kernel_rfl) (by kernel_rfl) (by kernel_rfl) (fun _ _ _ h => h) (Or.inl ⟨by rfl, ?_⟩) (by assumption) ?_
  rotate_left
  · intro w hSw
    go_simp
    try with_reducible rfl
  try simp only [Act.put, List.setIfInBounds_toArray, List.set_cons_zero, List.set_cons_succ]
  refine wpAnyH_take (i := 1) (oi := { dst := some 54, op := Go.Op.unOp Go.UnOp.not 4 (Go.Operand.tmp 53), type := 4, pos := "law.go:146", after := #[{ on := 0, ground := Go.Ground.data }], guard := none }) (v := ?_) rfl (by kernel_rfl) (by kernel_rfl) (by kernel_rfl) (fun _ _ _ h => h) (Or.inl ⟨by rfl, ?_⟩) (by assumption) ?_
  rotate_left
  · intro w hSw
    go_simp
    try with_reducible rfl
  try simp only [Act.put, List.setIfInBounds_toArray, List.set_cons_zero, List.set_cons_succ]
  refine wpAnyH_take (i := 2) (oi := { dst := some 55, op := Go.Op.move (Go.Operand.tmp 54), type := 4, pos := "law.go:146", after := #[{ on := 1, ground := Go.Ground.data }], guard := none }) (v := ?_) rfl (by kernel_rfl) (by kernel_rfl) (by kernel_rfl) (fun _ _ _ h => h) (Or.inl ⟨by rfl, ?_⟩) (by assumption) ?_
  rotate_left
  · intro w hSw
    go_simp
    try with_reducible rfl
  try simp only [Act.put, List.setIfInBounds_toArray, List.set_cons_zero, List.set_cons_succ]
  refine wpAnyH_take (i := 3) (oi := { dst := some 56, op := Go.Op.load 24 (Go.Operand.tmp 5), type := 24, pos := "law.go:146", after := #[{ on := 2, ground := Go.Ground.guard }], guard := some (2, true) }) (v := ?_) rfl (by kernel_rfl) (by kernel_rfl) (by kernel_rfl) (fun _ _ _ h => h) (Or.inl ⟨by rfl, ?_⟩) (by assumption) ?_
  rotate_left
  · intro w hSw
    have k0 := (live_get hSw B4 p (by simp)).cell 0 (by omega)
    have k1 := (live_get hSw B4 p (by simp)).cell 1 (by omega)
    have k2 := (live_get hSw B4 p (by simp)).cell 2 (by omega)
    have k3 := (live_get hSw B4 p (by simp)).cell 3 (by omega)
    go_simp
    try with_reducible rfl
  try simp only [Act.put, List.setIfInBounds_toArray, List.set_cons_zero, List.set_cons_succ]
  refine wpAnyH_ready (rs := [4]) (by kernel_rfl) (by simp) ?_
  refine AllReadyH.cons (o := { dst := some 57, op := Go.Op.call { callee := Go.Callee.value (Go.Operand.func 25), args := #[Go.Operand.tmp 56], argTypes := #[24] }, type := 3, pos := "law.go:146", after := #[{ on := 3, ground := Go.Ground.data }, { on := 2, ground := Go.Ground.chain }, { on := 2, ground := Go.Ground.guard }], guard := some (2, true) }) rfl (fun K hK => ?_) AllReadyH.nil
  go_simp
  refine (sign_c vp Xhsp0.out _).mono ?_
  rintro e W24 ⟨rfl, hBl⟩
  refine hK.out _ _ ?_ (fun hHeld2 => ?_)
  · exact live_below hHeld hBl
  clear hK K hHeld
  have hHeld := hHeld2
  clear hHeld2
  try simp only [Act.put, List.setIfInBounds_toArray, List.set_cons_zero, List.set_cons_succ]
  refine wpAnyH_take (i := 5) (oi := { dst := some 58, op := Go.Op.binOp Go.BinOp.lss 3 (Go.Operand.tmp 57) (Go.Operand.const (Go.Value.int Go.IntKind.i64 0)) 3, type := 4, pos := "law.go:146", after := #[{ on := 4, ground := Go.Ground.data }, { on := 2, ground := Go.Ground.guard }], guard := some (2, true) }) (v := ?_) rfl (by kernel_rfl) (by kernel_rfl) (by kernel_rfl) (fun _ _ _ h => h) (Or.inl ⟨by rfl, ?_⟩) (by assumption) ?_
  rotate_left
  · intro w hSw
    go_simp
    try with_reducible rfl
  try simp only [Act.put, List.setIfInBounds_toArray, List.set_cons_zero, List.set_cons_succ]
  refine wpAnyH_take (i := 6) (oi := { dst := some 59, op := Go.Op.pick (Go.Operand.tmp 55) (Go.Operand.tmp 58) (Go.Operand.const (Go.Value.bool false)), type := 4, pos := "law.go:146", after := #[{ on := 2, ground := Go.Ground.data }, { on := 5, ground := Go.Ground.data }], guard := none }) (v := ?_) rfl (by kernel_rfl) (by kernel_rfl) (by kernel_rfl) (fun _ _ _ h => h) (Or.inl ⟨by rfl, ?_⟩) (by assumption) ?_
  rotate_left
  · intro w hSw
    go_simp
    try with_reducible rfl
  try simp only [Act.put, List.setIfInBounds_toArray, List.set_cons_zero, List.set_cons_succ]
  refine wpAnyH_take (i := 7) (oi := { dst := some 60, op := Go.Op.move (Go.Operand.tmp 59), type := 4, pos := "law.go:146", after := #[{ on := 6, ground := Go.Ground.data }, { on := 4, ground := Go.Ground.chain }], guard := none }) (v := ?_) rfl (by kernel_rfl) (by kernel_rfl) (by kernel_rfl) (fun _ _ _ h => h) (Or.inl ⟨by rfl, ?_⟩) (by assumption) ?_
  rotate_left
  · intro w hSw
    go_simp
    try with_reducible rfl
  try simp only [Act.put, List.setIfInBounds_toArray, List.set_cons_zero, List.set_cons_succ]
  refine wpAnyH_take (i := 8) (oi := { dst := some 61, op := Go.Op.move (Go.Operand.tmp 6), type := 4, pos := "law.go:146", after := #[{ on := 7, ground := Go.Ground.guard }], guard := some (7, false) }) (v := ?_) rfl (by kernel_rfl) (by kernel_rfl) (by kernel_rfl) (fun _ _ _ h => h) (Or.inl ⟨by rfl, ?_⟩) (by assumption) ?_
  rotate_left
  · intro w hSw
    go_simp
    try with_reducible rfl
  try simp only [Act.put, List.setIfInBounds_toArray, List.set_cons_zero, List.set_cons_succ]
  refine wpAnyH_take (i := 9) (oi := { dst := some 62, op := Go.Op.unOp Go.UnOp.not 4 (Go.Operand.tmp 61), type := 4, pos := "law.go:146", after := #[{ on := 8, ground := Go.Ground.data }, { on := 7, ground := Go.Ground.guard }], guard := some (7, false) }) (v := ?_) rfl (by kernel_rfl) (by kernel_rfl) (by kernel_rfl) (fun _ _ _ h => h) (Or.inl ⟨by rfl, ?_⟩) (by assumption) ?_
  rotate_left
  · intro w hSw
    go_simp
    try with_reducible rfl
  try simp only [Act.put, List.setIfInBounds_toArray, List.set_cons_zero, List.set_cons_succ]
  refine wpAnyH_take (i := 10) (oi := { dst := some 63, op := Go.Op.move (Go.Operand.tmp 62), type := 4, pos := "law.go:146", after := #[{ on := 9, ground := Go.Ground.data }, { on := 7, ground := Go.Ground.chain }, { on := 7, ground := Go.Ground.guard }], guard := some (7, false) }) (v := ?_) rfl (by kernel_rfl) (by kernel_rfl) (by kernel_rfl) (fun _ _ _ h => h) (Or.inl ⟨by rfl, ?_⟩) (by assumption) ?_
  rotate_left
  · intro w hSw
    go_simp
    try with_reducible rfl
  try simp only [Act.put, List.setIfInBounds_toArray, List.set_cons_zero, List.set_cons_succ]
  refine wpAnyH_take (i := 11) (oi := { dst := some 64, op := Go.Op.move (Go.Operand.tmp 8), type := 4, pos := "law.go:146", after := #[{ on := 10, ground := Go.Ground.guard }], guard := some (10, true) }) (v := ?_) rfl (by kernel_rfl) (by kernel_rfl) (by kernel_rfl) (fun _ _ _ h => h) (Or.inl ⟨by rfl, ?_⟩) (by assumption) ?_
  rotate_left
  · intro w hSw
    go_simp
    try with_reducible rfl
  try simp only [Act.put, List.setIfInBounds_toArray, List.set_cons_zero, List.set_cons_succ]
  refine wpAnyH_take (i := 12) (oi := { dst := some 65, op := Go.Op.unOp Go.UnOp.not 4 (Go.Operand.tmp 64), type := 4, pos := "law.go:146", after := #[{ on := 11, ground := Go.Ground.data }, { on := 10, ground := Go.Ground.guard }], guard := some (10, true) }) (v := ?_) rfl (by kernel_rfl) (by kernel_rfl) (by kernel_rfl) (fun _ _ _ h => h) (Or.inl ⟨by rfl, ?_⟩) (by assumption) ?_
  rotate_left
  · intro w hSw
    go_simp
    try with_reducible rfl
  try simp only [Act.put, List.setIfInBounds_toArray, List.set_cons_zero, List.set_cons_succ]
  refine wpAnyH_take (i := 13) (oi := { dst := some 66, op := Go.Op.pick (Go.Operand.tmp 63) (Go.Operand.tmp 65) (Go.Operand.const (Go.Value.bool false)), type := 4, pos := "law.go:146", after := #[{ on := 10, ground := Go.Ground.data }, { on := 12, ground := Go.Ground.data }, { on := 7, ground := Go.Ground.guard }], guard := some (7, false) }) (v := ?_) rfl (by kernel_rfl) (by kernel_rfl) (by kernel_rfl) (fun _ _ _ h => h) (Or.inl ⟨by rfl, ?_⟩) (by assumption) ?_
  rotate_left
  · intro w hSw
    go_simp
    try with_reducible rfl
  try simp only [Act.put, List.setIfInBounds_toArray, List.set_cons_zero, List.set_cons_succ]
  refine wpAnyH_take (i := 14) (oi := { dst := some 67, op := Go.Op.move (Go.Operand.tmp 66), type := 4, pos := "law.go:146", after := #[{ on := 13, ground := Go.Ground.data }, { on := 10, ground := Go.Ground.chain }, { on := 7, ground := Go.Ground.guard }], guard := some (7, false) }) (v := ?_) rfl (by kernel_rfl) (by kernel_rfl) (by kernel_rfl) (fun _ _ _ h => h) (Or.inl ⟨by rfl, ?_⟩) (by assumption) ?_
  rotate_left
  · intro w hSw
    go_simp
    try with_reducible rfl
  try simp only [Act.put, List.setIfInBounds_toArray, List.set_cons_zero, List.set_cons_succ]
  refine wpAnyH_take (i := 15) (oi := { dst := some 68, op := Go.Op.load 24 (Go.Operand.tmp 2), type := 24, pos := "law.go:146", after := #[{ on := 14, ground := Go.Ground.guard }], guard := some (14, true) }) (v := ?_) rfl (by kernel_rfl) (by kernel_rfl) (by kernel_rfl) (fun _ _ _ h => h) (Or.inl ⟨by rfl, ?_⟩) (by assumption) ?_
  rotate_left
  · intro w hSw
    have k0 := (live_get hSw Ba a (by simp)).cell 0 (by omega)
    have k1 := (live_get hSw Ba a (by simp)).cell 1 (by omega)
    have k2 := (live_get hSw Ba a (by simp)).cell 2 (by omega)
    have k3 := (live_get hSw Ba a (by simp)).cell 3 (by omega)
    go_simp
    try with_reducible rfl
  try simp only [Act.put, List.setIfInBounds_toArray, List.set_cons_zero, List.set_cons_succ]
  refine wpAnyH_ready (rs := [16]) (by kernel_rfl) (by simp) ?_
  refine AllReadyH.cons (o := { dst := some 69, op := Go.Op.call { callee := Go.Callee.value (Go.Operand.func 25), args := #[Go.Operand.tmp 68], argTypes := #[24] }, type := 3, pos := "law.go:146", after := #[{ on := 15, ground := Go.Ground.data }, { on := 14, ground := Go.Ground.chain }, { on := 14, ground := Go.Ground.guard }], guard := some (14, true) }) rfl (fun K hK => ?_) AllReadyH.nil
  go_simp
  refine (sign_c ha Xhsa0.out _).mono ?_
  rintro e W25 ⟨rfl, hBl⟩
  refine hK.out _ _ ?_ (fun hHeld2 => ?_)
  · exact live_below hHeld hBl
  clear hK K hHeld
  have hHeld := hHeld2
  clear hHeld2
  try simp only [Act.put, List.setIfInBounds_toArray, List.set_cons_zero, List.set_cons_succ]
  refine wpAnyH_take (i := 17) (oi := { dst := some 70, op := Go.Op.binOp Go.BinOp.geq 3 (Go.Operand.tmp 69) (Go.Operand.const (Go.Value.int Go.IntKind.i64 0)) 3, type := 4, pos := "law.go:146", after := #[{ on := 16, ground := Go.Ground.data }, { on := 14, ground := Go.Ground.guard }], guard := some (14, true) }) (v := ?_) rfl (by kernel_rfl) (by kernel_rfl) (by kernel_rfl) (fun _ _ _ h => h) (Or.inl ⟨by rfl, ?_⟩) (by assumption) ?_
  rotate_left
  · intro w hSw
    go_simp
    try with_reducible rfl
  try simp only [Act.put, List.setIfInBounds_toArray, List.set_cons_zero, List.set_cons_succ]
  refine wpAnyH_take (i := 18) (oi := { dst := some 71, op := Go.Op.pick (Go.Operand.tmp 67) (Go.Operand.tmp 70) (Go.Operand.const (Go.Value.bool false)), type := 4, pos := "law.go:146", after := #[{ on := 14, ground := Go.Ground.data }, { on := 17, ground := Go.Ground.data }, { on := 7, ground := Go.Ground.guard }], guard := some (7, false) }) (v := ?_) rfl (by kernel_rfl) (by kernel_rfl) (by kernel_rfl) (fun _ _ _ h => h) (Or.inl ⟨by rfl, ?_⟩) (by assumption) ?_
  rotate_left
  · intro w hSw
    go_simp
    try with_reducible rfl
  try simp only [Act.put, List.setIfInBounds_toArray, List.set_cons_zero, List.set_cons_succ]
  refine wpAnyH_take (i := 19) (oi := { dst := some 72, op := Go.Op.move (Go.Operand.tmp 71), type := 4, pos := "law.go:146", after := #[{ on := 18, ground := Go.Ground.data }, { on := 16, ground := Go.Ground.chain }, { on := 7, ground := Go.Ground.guard }], guard := some (7, false) }) (v := ?_) rfl (by kernel_rfl) (by kernel_rfl) (by kernel_rfl) (fun _ _ _ h => h) (Or.inl ⟨by rfl, ?_⟩) (by assumption) ?_
  rotate_left
  · intro w hSw
    go_simp
    try with_reducible rfl
  try simp only [Act.put, List.setIfInBounds_toArray, List.set_cons_zero, List.set_cons_succ]
  refine wpAnyH_take (i := 20) (oi := { dst := some 73, op := Go.Op.load 24 (Go.Operand.tmp 3), type := 24, pos := "law.go:146", after := #[{ on := 19, ground := Go.Ground.guard }], guard := some (19, true) }) (v := ?_) rfl (by kernel_rfl) (by kernel_rfl) (by kernel_rfl) (fun _ _ _ h => h) (Or.inl ⟨by rfl, ?_⟩) (by assumption) ?_
  rotate_left
  · intro w hSw
    have k0 := (live_get hSw Bb b (by simp)).cell 0 (by omega)
    have k1 := (live_get hSw Bb b (by simp)).cell 1 (by omega)
    have k2 := (live_get hSw Bb b (by simp)).cell 2 (by omega)
    have k3 := (live_get hSw Bb b (by simp)).cell 3 (by omega)
    go_simp
    try with_reducible rfl
  try simp only [Act.put, List.setIfInBounds_toArray, List.set_cons_zero, List.set_cons_succ]
  refine wpAnyH_ready (rs := [21]) (by kernel_rfl) (by simp) ?_
  refine AllReadyH.cons (o := { dst := some 74, op := Go.Op.call { callee := Go.Callee.value (Go.Operand.func 25), args := #[Go.Operand.tmp 73], argTypes := #[24] }, type := 3, pos := "law.go:146", after := #[{ on := 20, ground := Go.Ground.data }, { on := 19, ground := Go.Ground.chain }, { on := 19, ground := Go.Ground.guard }], guard := some (19, true) }) rfl (fun K hK => ?_) AllReadyH.nil
  go_simp
  refine (sign_c hb Xhsb0.out _).mono ?_
  rintro e W26 ⟨rfl, hBl⟩
  refine hK.out _ _ ?_ (fun hHeld2 => ?_)
  · exact live_below hHeld hBl
  clear hK K hHeld
  have hHeld := hHeld2
  clear hHeld2
  try simp only [Act.put, List.setIfInBounds_toArray, List.set_cons_zero, List.set_cons_succ]
  refine wpAnyH_take (i := 22) (oi := { dst := some 75, op := Go.Op.binOp Go.BinOp.geq 3 (Go.Operand.tmp 74) (Go.Operand.const (Go.Value.int Go.IntKind.i64 0)) 3, type := 4, pos := "law.go:146", after := #[{ on := 21, ground := Go.Ground.data }, { on := 19, ground := Go.Ground.guard }], guard := some (19, true) }) (v := ?_) rfl (by kernel_rfl) (by kernel_rfl) (by kernel_rfl) (fun _ _ _ h => h) (Or.inl ⟨by rfl, ?_⟩) (by assumption) ?_
  rotate_left
  · intro w hSw
    go_simp
    try with_reducible rfl
  try simp only [Act.put, List.setIfInBounds_toArray, List.set_cons_zero, List.set_cons_succ]
  refine wpAnyH_take (i := 23) (oi := { dst := some 76, op := Go.Op.pick (Go.Operand.tmp 72) (Go.Operand.tmp 75) (Go.Operand.const (Go.Value.bool false)), type := 4, pos := "law.go:146", after := #[{ on := 19, ground := Go.Ground.data }, { on := 22, ground := Go.Ground.data }, { on := 7, ground := Go.Ground.guard }], guard := some (7, false) }) (v := ?_) rfl (by kernel_rfl) (by kernel_rfl) (by kernel_rfl) (fun _ _ _ h => h) (Or.inl ⟨by rfl, ?_⟩) (by assumption) ?_
  rotate_left
  · intro w hSw
    go_simp
    try with_reducible rfl
  try simp only [Act.put, List.setIfInBounds_toArray, List.set_cons_zero, List.set_cons_succ]
  refine wpAnyH_take (i := 24) (oi := { dst := some 77, op := Go.Op.move (Go.Operand.tmp 76), type := 4, pos := "law.go:146", after := #[{ on := 23, ground := Go.Ground.data }, { on := 21, ground := Go.Ground.chain }, { on := 7, ground := Go.Ground.guard }], guard := some (7, false) }) (v := ?_) rfl (by kernel_rfl) (by kernel_rfl) (by kernel_rfl) (fun _ _ _ h => h) (Or.inl ⟨by rfl, ?_⟩) (by assumption) ?_
  rotate_left
  · intro w hSw
    go_simp
    try with_reducible rfl
  try simp only [Act.put, List.setIfInBounds_toArray, List.set_cons_zero, List.set_cons_succ]
  refine wpAnyH_take (i := 25) (oi := { dst := some 78, op := Go.Op.load 24 (Go.Operand.tmp 5), type := 24, pos := "law.go:146", after := #[{ on := 24, ground := Go.Ground.guard }], guard := some (24, true) }) (v := ?_) rfl (by kernel_rfl) (by kernel_rfl) (by kernel_rfl) (fun _ _ _ h => h) (Or.inl ⟨by rfl, ?_⟩) (by assumption) ?_
  rotate_left
  · intro w hSw
    have k0 := (live_get hSw B4 p (by simp)).cell 0 (by omega)
    have k1 := (live_get hSw B4 p (by simp)).cell 1 (by omega)
    have k2 := (live_get hSw B4 p (by simp)).cell 2 (by omega)
    have k3 := (live_get hSw B4 p (by simp)).cell 3 (by omega)
    go_simp
    try with_reducible rfl
  try simp only [Act.put, List.setIfInBounds_toArray, List.set_cons_zero, List.set_cons_succ]
  refine wpAnyH_take (i := 26) (oi := { dst := some 79, op := Go.Op.load 24 (Go.Operand.tmp 7), type := 24, pos := "law.go:146", after := #[{ on := 24, ground := Go.Ground.guard }], guard := some (24, true) }) (v := ?_) rfl (by kernel_rfl) (by kernel_rfl) (by kernel_rfl) (fun _ _ _ h => h) (Or.inl ⟨by rfl, ?_⟩) (by assumption) ?_
  rotate_left
  · intro w hSw
    have k0 := (live_get hSw B8 q (by simp)).cell 0 (by omega)
    have k1 := (live_get hSw B8 q (by simp)).cell 1 (by omega)
    have k2 := (live_get hSw B8 q (by simp)).cell 2 (by omega)
    have k3 := (live_get hSw B8 q (by simp)).cell 3 (by omega)
    go_simp
    try with_reducible rfl
  try simp only [Act.put, List.setIfInBounds_toArray, List.set_cons_zero, List.set_cons_succ]
  refine wpAnyH_take (i := 28) (oi := { dst := some 81, op := Go.Op.load 24 (Go.Operand.tmp 2), type := 24, pos := "law.go:146", after := #[{ on := 24, ground := Go.Ground.guard }], guard := some (24, true) }) (v := ?_) rfl (by kernel_rfl) (by kernel_rfl) (by kernel_rfl) (fun _ _ _ h => h) (Or.inl ⟨by rfl, ?_⟩) (by assumption) ?_
  rotate_left
  · intro w hSw
    have k0 := (live_get hSw Ba a (by simp)).cell 0 (by omega)
    have k1 := (live_get hSw Ba a (by simp)).cell 1 (by omega)
    have k2 := (live_get hSw Ba a (by simp)).cell 2 (by omega)
    have k3 := (live_get hSw Ba a (by simp)).cell 3 (by omega)
    go_simp
    try with_reducible rfl
  try simp only [Act.put, List.setIfInBounds_toArray, List.set_cons_zero, List.set_cons_succ]
  refine wpAnyH_take (i := 29) (oi := { dst := some 82, op := Go.Op.load 24 (Go.Operand.tmp 3), type := 24, pos := "law.go:146", after := #[{ on := 24, ground := Go.Ground.guard }], guard := some (24, true) }) (v := ?_) rfl (by kernel_rfl) (by kernel_rfl) (by kernel_rfl) (fun _ _ _ h => h) (Or.inl ⟨by rfl, ?_⟩) (by assumption) ?_
  rotate_left
  · intro w hSw
    have k0 := (live_get hSw Bb b (by simp)).cell 0 (by omega)
    have k1 := (live_get hSw Bb b (by simp)).cell 1 (by omega)
    have k2 := (live_get hSw Bb b (by simp)).cell 2 (by omega)
    have k3 := (live_get hSw Bb b (by simp)).cell 3 (by omega)
    go_simp
    try with_reducible rfl
  try simp only [Act.put, List.setIfInBounds_toArray, List.set_cons_zero, List.set_cons_succ]
  refine wpAnyH_ready (rs := [27]) (by kernel_rfl) (by simp) ?_
  refine AllReadyH.cons (o := { dst := some 80, op := Go.Op.call { callee := Go.Callee.value (Go.Operand.func 23), args := #[Go.Operand.tmp 78, Go.Operand.tmp 79], argTypes := #[24, 24] }, type := 3, pos := "law.go:146", after := #[{ on := 25, ground := Go.Ground.data }, { on := 26, ground := Go.Ground.data }, { on := 24, ground := Go.Ground.chain }, { on := 24, ground := Go.Ground.guard }], guard := some (24, true) }) rfl (fun K hK => ?_) AllReadyH.nil
  go_simp
  refine (cmp_c vp vq Xhc1.out _).mono ?_
  rintro e W27 ⟨rfl, hBl⟩
  refine hK.out _ _ ?_ (fun hHeld2 => ?_)
  · exact live_below hHeld hBl
  clear hK K hHeld
  have hHeld := hHeld2
  clear hHeld2
  try simp only [Act.put, List.setIfInBounds_toArray, List.set_cons_zero, List.set_cons_succ]
  refine wpAnyH_ready (rs := [30]) (by kernel_rfl) (by simp) ?_
  refine AllReadyH.cons (o := { dst := some 83, op := Go.Op.call { callee := Go.Callee.value (Go.Operand.func 23), args := #[Go.Operand.tmp 81, Go.Operand.tmp 82], argTypes := #[24, 24] }, type := 3, pos := "law.go:146", after := #[{ on := 28, ground := Go.Ground.data }, { on := 29, ground := Go.Ground.data }, { on := 27, ground := Go.Ground.chain }, { on := 24, ground := Go.Ground.guard }], guard := some (24, true) }) rfl (fun K hK => ?_) AllReadyH.nil
  go_simp
  refine (cmp_c ha hb Xhc2.out _).mono ?_
  rintro e W28 ⟨rfl, hBl⟩
  refine hK.out _ _ ?_ (fun hHeld2 => ?_)
  · exact live_below hHeld hBl
  clear hK K hHeld
  have hHeld := hHeld2
  clear hHeld2
  try simp only [Act.put, List.setIfInBounds_toArray, List.set_cons_zero, List.set_cons_succ]
  refine wpAnyH_take (i := 31) (oi := { dst := some 84, op := Go.Op.binOp Go.BinOp.neq 3 (Go.Operand.tmp 80) (Go.Operand.tmp 83) 3, type := 4, pos := "law.go:146", after := #[{ on := 27, ground := Go.Ground.data }, { on := 30, ground := Go.Ground.data }, { on := 24, ground := Go.Ground.guard }], guard := some (24, true) }) (v := ?_) rfl (by kernel_rfl) (by kernel_rfl) (by kernel_rfl) (fun _ _ _ h => h) (Or.inl ⟨by rfl, ?_⟩) (by assumption) ?_
  rotate_left
  · intro w hSw
    go_simp
    try with_reducible rfl
  try simp only [Act.put, List.setIfInBounds_toArray, List.set_cons_zero, List.set_cons_succ]
  refine wpAnyH_take (i := 32) (oi := { dst := some 85, op := Go.Op.pick (Go.Operand.tmp 77) (Go.Operand.tmp 84) (Go.Operand.const (Go.Value.bool false)), type := 4, pos := "law.go:146", after := #[{ on := 24, ground := Go.Ground.data }, { on := 31, ground := Go.Ground.data }, { on := 7, ground := Go.Ground.guard }], guard := some (7, false) }) (v := ?_) rfl (by kernel_rfl) (by kernel_rfl) (by kernel_rfl) (fun _ _ _ h => h) (Or.inl ⟨by rfl, ?_⟩) (by assumption) ?_
  rotate_left
  · intro w hSw
    go_simp
    try with_reducible rfl
  try simp only [Act.put, List.setIfInBounds_toArray, List.set_cons_zero, List.set_cons_succ]
  refine wpAnyH_take (i := 33) (oi := { dst := some 86, op := Go.Op.pick (Go.Operand.tmp 60) (Go.Operand.const (Go.Value.bool true)) (Go.Operand.tmp 85), type := 4, pos := "law.go:146", after := #[{ on := 7, ground := Go.Ground.data }, { on := 32, ground := Go.Ground.data }], guard := none }) (v := ?_) rfl (by kernel_rfl) (by kernel_rfl) (by kernel_rfl) (fun _ _ _ h => h) (Or.inl ⟨by rfl, ?_⟩) (by assumption) ?_
  rotate_left
  · intro w hSw
    go_simp
    try with_reducible rfl
  try simp only [Act.put, List.setIfInBounds_toArray, List.set_cons_zero, List.set_cons_succ]
  refine wpAnyH_done (by kernel_rfl) ?_ _
  have hL := hHeld
  clear hHeld
  have q29a := (live_get hL B20 x (by simp)).cell 0 (by omega)
  have q29b := (live_get hL B20 x (by simp)).cell 1 (by omega)
  have q29c := (live_get hL B20 x (by simp)).cell 2 (by omega)
  have q29d := (live_get hL B20 x (by simp)).cell 3 (by omega)
  have q30a := (live_get hL B22 y (by simp)).cell 0 (by omega)
  have q30b := (live_get hL B22 y (by simp)).cell 1 (by omega)
  have q30c := (live_get hL B22 y (by simp)).cell 2 (by omega)
  have q30d := (live_get hL B22 y (by simp)).cell 3 (by omega)
  go_wp2_with fail
  clear q29a q29b q29c q29d q30a q30b q30c q30d
  refine (wakes_x _).mono ?_
  rintro e W31 ⟨rfl, hB⟩
  have hL2 := live_below hL hB
  clear hB hL
  have hL := hL2
  clear hL2
  go_wp2
  go_ret
  exact ⟨rfl, hL.2⟩

theorem squares_walk (a b : Nat → Nat) (ha : Wds a) (hb : Wds b) (w : World) :
    Calls Try.prog 7 #[.agg #[.int .u64 (a 0), .int .u64 (a 1), .int .u64 (a 2), .int .u64 (a 3)], .agg #[.int .u64 (b 0), .int .u64 (b 1), .int .u64 (b 2), .int .u64 (b 3)]] w fun e w' => e = .returned (.bool true) ∧ Below w.heap.size w w' := by
  have vp := mulR_words a a ha ha
  have vq := mulR_words b b hb hb
  have vs := addR_words a b
  have vd := subR_words a b
  have ca := cong_self ha
  have cb := cong_self hb
  have he : eqB (mulR (addR a b) (subR a b)) (subR (mulR a a) (mulR b b)) = true :=
    cong_eq (mulR_words _ _ vs vd) (subR_words _ _) (cong_mul vs vd (cong_add ha hb ca cb) (cong_sub ha hb ca cb)) (cong_sub vp vq (cong_mul ha ha ca ca) (cong_mul hb hb cb cb)) (sq_diff _ _)
  cases ho1 : mulO a a with
  | true => exact sq_1 a b _ _ _ _ _ _ _ _ _ _ _ _ _ _ _ _ ha hb vp vq vs vd rfl rfl rfl rfl rfl rfl rfl rfl rfl rfl rfl rfl rfl rfl rfl he ho1 rfl w
  | false =>
    have h1 := over_false ((mulO_z ha ha).symm.trans ho1)
    have z1 : sval (mulR a a) = sval a * sval a := sval_of vp (mulR_z ha ha) h1.1 h1.2
    have hsp : decide (signI (mulR a a) < 0) = false := by
      rw [signI_z vp, sgn_neg, z1, decide_eq_false_iff_not]
      have := sq_nonneg (sval a)
      omega
    cases ho2 : mulO b b with
    | true => exact sq_2 a b _ _ _ _ _ _ true _ _ _ _ _ _ _ _ _ ha hb vp vq vs vd rfl rfl rfl rfl rfl rfl rfl rfl rfl rfl rfl rfl rfl rfl rfl he ho1 ho2 hsp w
    | false =>
      have h2 := over_false ((mulO_z hb hb).symm.trans ho2)
      have z2 : sval (mulR b b) = sval b * sval b := sval_of vq (mulR_z hb hb) h2.1 h2.2
      cases hsa : decide (0 ≤ signI a) with
      | false => exact sq_3 a b _ _ _ _ _ _ true _ _ _ _ _ _ _ _ _ ha hb vp vq vs vd rfl rfl rfl rfl rfl rfl rfl rfl rfl rfl rfl rfl rfl rfl rfl he ho1 ho2 hsp hsa w
      | true =>
        cases hsb : decide (0 ≤ signI b) with
        | false => exact sq_4 a b _ _ _ _ _ _ true _ _ _ _ _ _ _ _ _ ha hb vp vq vs vd rfl rfl rfl rfl rfl rfl rfl rfl rfl rfl rfl rfl rfl rfl rfl he ho1 ho2 hsp hsa hsb w
        | true =>
          have k1 : 0 ≤ sval a := by
            have h3 := hsa
            rw [signI_z ha, sgn_nonneg] at h3
            simpa using h3
          have k2 : 0 ≤ sval b := by
            have h3 := hsb
            rw [signI_z hb, sgn_nonneg] at h3
            simpa using h3
          have hc : cmpR a b = cmpR (mulR a a) (mulR b b) := by
            rw [cmpR_z ha hb, cmpR_z vp vq, z1, z2, sq_cmp k1 k2]
          exact sq_5 a b _ _ _ _ _ _ true _ _ _ _ _ _ _ _ 0 ha hb vp vq vs vd rfl rfl rfl rfl rfl rfl rfl rfl rfl rfl rfl rfl rfl rfl hc he ho1 ho2 hsp hsa hsb w

end Go.Proofs.Ytmlbppljencdnaa
