/- The contract of Sub of package wide, for every input. -/
import Derived.Test.YtecgclkjglkkbaaA2
namespace Go.Proofs.Ytecgclkjglkkbaa
open Go Go.RowKit Go.Shelf
set_option linter.unusedSimpArgs false
set_option linter.unusedVariables false

attribute [local go_sem] Oper.semAt_some

def subStep (a b : Nat → Nat) (s : (Nat → Nat) × Nat) (x : Fin 4) : (Nat → Nat) × Nat :=
  (upd s.1 x.val ((a x.val + 18446744073709551616 - b x.val - s.2) % 18446744073709551616), if a x.val < b x.val + s.2 then 1 else 0)
def subSt (a b : Nat → Nat) (l : List (Fin 4)) : (Nat → Nat) × Nat := l.foldl (subStep a b) (fun _ => 0, 0)

theorem subSt_snoc (a b : Nat → Nat) (l : List (Fin 4)) (x : Fin 4) : subSt a b (l ++ [x]) = subStep a b (subSt a b l) x := by simp [subSt]
theorem subFold_le {a b : Nat → Nat} (l : List (Fin 4)) : ∀ s : (Nat → Nat) × Nat, s.2 ≤ 1 → (l.foldl (subStep a b) s).2 ≤ 1 := by
  induction l with
  | nil => exact fun s h => h
  | cons x l ih =>
    intro s hs
    refine ih _ ?_
    simp only [subStep]
    split <;> omega
theorem subSt_le (a b : Nat → Nat) (l : List (Fin 4)) : (subSt a b l).2 ≤ 1 := subFold_le l _ (by simp)
theorem sub_words {a b : Nat → Nat} (l : List (Fin 4)) : ∀ s : (Nat → Nat) × Nat, Wds s.1 → Wds (l.foldl (subStep a b) s).1 := by
  induction l with
  | nil => exact fun s h => h
  | cons x l ih =>
    intro s hs
    refine ih _ ?_
    intro i
    simp only [subStep, upd]
    split
    · omega
    · exact hs i
theorem subSt_words (a b : Nat → Nat) (l : List (Fin 4)) : Wds (subSt a b l).1 := sub_words l _ (fun _ => by simp)

set_option maxRecDepth 100000 in
set_option maxHeartbeats 2000000 in
theorem sub_any (a b : Nat → Nat) (ha : Wds a) (hb : Wds b) (w : World) :
    Calls Try.prog 12 #[V4 a, V4 b] w fun e w' => e = .returned (.tuple #[V4 (subSt a b (List.finRange 4)).1, .bool ((lowB a != lowB b) && (lowB (subSt a b (List.finRange 4)).1 != lowB a))]) ∧ Below w.heap.size w w' := by
  unfold V4
  obtain ⟨R, hR⟩ : ∃ R, subSt a b (List.finRange 4) = R := ⟨_, rfl⟩
  have hRw : Wds R.1 := hR ▸ subSt_words a b _
  rw [hR]
  obtain ⟨qa, hqa⟩ : ∃ q, lowB a = q := ⟨_, rfl⟩
  obtain ⟨qb, hqb⟩ : ∃ q, lowB b = q := ⟨_, rfl⟩
  obtain ⟨qr, hqr⟩ : ∃ q, lowB R.1 = q := ⟨_, rfl⟩
  rw [hqa, hqb, hqr]
  have HR := Lib.hid hR
  have HQA := Lib.hid hqa
  have HQB := Lib.hid hqb
  have HQR := Lib.hid hqr
  clear hR hqa hqb hqr
  refine (callsIn_wide (n := 5)).1 ?_
  refine callsIn_of_wp_marks Try.func12 rfl trivial ?_ rfl
  simp only [Try.ntmps12, List.size_toArray, List.length_cons, List.length_nil, Nat.reduceAdd, Nat.reduceSub, Array.replicate_succ, Array.replicate_zero, List.push_toArray, List.append_toArray, List.nil_append, List.cons_append]
  gi_wp2_with (refine ⟨trivial, ?_⟩; gi_at_call 46; refine (callsIn_wide.2 (wordsOf_any a _)).mono ?_; rintro e W1 ⟨rfl, hT, hsz, hB1⟩; have HS0 := Lib.hid hsz; clear hsz)
  have hsz := HS0.out
  clear HS0
  change Below (lay5 a b w).heap.size (lay5 a b w) W1 at hB1
  change At4 W1 (lay5 a b w).heap.size a at hT
  change W1.heap.size = (lay5 a b w).heap.size + 1 at hsz
  obtain ⟨g1, g2, g3, g4, g5, g6, g7⟩ := lay5_at a b w
  have hF : Five w.heap.size w a b (subSt a b []) W1 := five_below (W := lay5 a b w) ⟨g1, g2, g3, g4, g5, g6⟩ rfl hB1
  rw [g7] at hT hsz
  clear g1 g2 g3 g4 g5 g6 g7 hB1
  obtain ⟨N, hN⟩ : ∃ N, w.heap.size = N := ⟨_, rfl⟩
  rw [hN] at hF hT hsz ⊢
  have hle : N + 1 + 1 + 1 + 1 + 1 < W1.heap.size := by omega
  clear hsz
  refine wpIn_rangeFunc_ownG_of_H rfl (by omega) (gf := 82) (lb := #[.pointer (some ⟨N + 1 + 1 + 1 + 1 + 1, 0, none⟩)]) rfl trivial (enters_of Try.func82 (by kernel_rfl) rfl)
    (words_stops (5 - 1) (by omega) _ a W1 hT) (fun _ _ => trivial) (fun _ _ _ _ _ _ _ _ => trivial) (Below.refl _ _) (fun _ => rfl)
    (fun pre W => Five N w a b (subSt a b pre) W) (fun _ _ _ => False)
    (five_own N _ w hN.symm (by omega) a b (subSt a b)) (fun _ _ _ _ _ hs _ _ => hs) hF
    (fun x => { tmps := #[.agg #[.int .u64 (a 0), .int .u64 (a 1), .int .u64 (a 2), .int .u64 (a 3)], .agg #[.int .u64 (b 0), .int .u64 (b 1), .int .u64 (b 2), .int .u64 (b 3)], .pointer (some ⟨N, 0, none⟩), .pointer (some ⟨N + 1, 0, none⟩), .pointer (some ⟨N + 1 + 1, 0, none⟩), .bool false, .pointer (some ⟨N + 1 + 1 + 1, 0, none⟩), .pointer (some ⟨N + 1 + 1 + 1 + 1, 0, none⟩), .int .i64 x.val, .int .u64 (a x.val), .agg #[.int .u64 (a 0), .int .u64 (a 1), .int .u64 (a 2), .int .u64 (a 3)], .func (.func 82) #[] #[.pointer (some ⟨N + 1 + 1 + 1 + 1 + 1, 0, none⟩)], .int .i64 x.val, .int .u64 (a x.val), undef, undef, undef, undef, undef, undef, undef, undef, undef, undef, undef, undef, undef, undef, undef, undef, undef, undef, undef, undef, undef, undef, undef, undef], defers := [] })
    ?assign ?body ?done ?stop (fun _ => trivial)
  case assign =>
    intro l x W K hK
    dsimp only [wenc]
    gi_wp2
    exact hK
  case body =>
    rintro l pre x W hI hlt
    obtain ⟨k, hk⟩ := x
    dsimp only
    have c3 := hI.2.1.cell k hk
    have c6 := hI.2.2.2.1.cell k hk
    have f6 := hI.2.2.2.1.frozen k
    have c7 := hI.2.2.2.2.1.cell
    have f7 := hI.2.2.2.2.1.frozen
    have hki : (k : Int) < 4 := by omega
    obtain ⟨s, c, hcall, H⟩ : ∃ s c : Nat, (∀ w, (callFunc 53 #[.int .u64 (a k), .int .u64 (b k), .int .u64 (subSt a b pre).2]).run Try.prog w = .ok (.value (.tuple #[.int .u64 s, .int .u64 c])) w) ∧ Hid (subSt a b (pre ++ [⟨k, hk⟩]) = (upd (subSt a b pre).1 k s, c)) :=
      ⟨_, _, call_sub64 (a k) (b k) (subSt a b pre).2 (subSt_le a b pre), Lib.hid (by rw [subSt_snoc]; rfl)⟩
    gi_wp2
    refine round_region_held (S := fun w' => At4 w' (N + 1) b) (by kernel_rfl) (by kernel_rfl) (by rintro ⟨_, _, h⟩; exact h) hI.2.1 (fun hHeld => ?_)
    refine wpAnyH_take (i := 0) (oi := { dst := some 15, op := Go.Op.move (Go.Operand.tmp 8), type := 3, pos := "wide.go:41", after := #[], guard := none }) (v := ?_) rfl (by kernel_rfl) (by kernel_rfl) (by kernel_rfl) (fun _ _ _ h => h) (Or.inl ⟨by rfl, ?_⟩) (by assumption) ?_
    rotate_left
    · intro w hSw
      have hcw := hSw.cell k hk
      go_simp
      try with_reducible rfl
    try simp only [Act.put, List.setIfInBounds_toArray, List.set_cons_zero, List.set_cons_succ]
    refine wpAnyH_take (i := 1) (oi := { dst := some 16, op := Go.Op.move (Go.Operand.tmp 9), type := 22, pos := "wide.go:41", after := #[], guard := none }) (v := ?_) rfl (by kernel_rfl) (by kernel_rfl) (by kernel_rfl) (fun _ _ _ h => h) (Or.inl ⟨by rfl, ?_⟩) (by assumption) ?_
    rotate_left
    · intro w hSw
      have hcw := hSw.cell k hk
      go_simp
      try with_reducible rfl
    try simp only [Act.put, List.setIfInBounds_toArray, List.set_cons_zero, List.set_cons_succ]
    refine wpAnyH_take (i := 2) (oi := { dst := some 17, op := Go.Op.move (Go.Operand.tmp 8), type := 3, pos := "wide.go:41", after := #[], guard := none }) (v := ?_) rfl (by kernel_rfl) (by kernel_rfl) (by kernel_rfl) (fun _ _ _ h => h) (Or.inl ⟨by rfl, ?_⟩) (by assumption) ?_
    rotate_left
    · intro w hSw
      have hcw := hSw.cell k hk
      go_simp
      try with_reducible rfl
    try simp only [Act.put, List.setIfInBounds_toArray, List.set_cons_zero, List.set_cons_succ]
    refine wpAnyH_take (i := 3) (oi := { dst := some 18, op := Go.Op.indexAddr 24 (Go.Operand.tmp 3) (Go.Operand.tmp 17), type := 0, pos := "wide.go:41", after := #[{ on := 2, ground := Go.Ground.data }], guard := none }) (v := ?_) rfl (by kernel_rfl) (by kernel_rfl) (by kernel_rfl) (fun _ _ _ h => h) (Or.inl ⟨by rfl, ?_⟩) (by assumption) ?_
    rotate_left
    · intro w hSw
      have hcw := hSw.cell k hk
      go_simp
      try with_reducible rfl
    try simp only [Act.put, List.setIfInBounds_toArray, List.set_cons_zero, List.set_cons_succ]
    refine wpAnyH_take (i := 4) (oi := { dst := some 19, op := Go.Op.load 22 (Go.Operand.tmp 18), type := 22, pos := "wide.go:41", after := #[{ on := 3, ground := Go.Ground.data }], guard := none }) (v := ?_) rfl (by kernel_rfl) (by kernel_rfl) (by kernel_rfl) (fun _ _ _ h => h) (Or.inl ⟨by rfl, ?_⟩) (by assumption) ?_
    rotate_left
    · intro w hSw
      have hcw := hSw.cell k hk
      go_simp
      try with_reducible rfl
    try simp only [Act.put, List.setIfInBounds_toArray, List.set_cons_zero, List.set_cons_succ]
    refine wpAnyH_ready (rs := [5]) (by kernel_rfl) (by simp) ?_
    refine AllReadyH.cons (o := { dst := some 20, op := Go.Op.load 22 (Go.Operand.tmp 7), type := 22, pos := "wide.go:41", after := #[], guard := none }) rfl (fun K hK => ?_) AllReadyH.nil
    go_simp
    refine hK.out _ _ ?_ (fun hHeld2 => ?_)
    · exact hHeld
    clear hK K hHeld
    have hHeld := hHeld2
    clear hHeld2
    try simp only [Act.put, List.setIfInBounds_toArray, List.set_cons_zero, List.set_cons_succ]
    refine wpAnyH_ready (rs := [6]) (by kernel_rfl) (by simp) ?_
    refine AllReadyH.cons (o := { dst := some 21, op := Go.Op.call { callee := Go.Callee.value (Go.Operand.func 53), args := #[Go.Operand.tmp 16, Go.Operand.tmp 19, Go.Operand.tmp 20], argTypes := #[22, 22, 22] }, type := 51, pos := "wide.go:41", after := #[{ on := 1, ground := Go.Ground.data }, { on := 4, ground := Go.Ground.data }, { on := 5, ground := Go.Ground.data }], guard := none }) rfl (fun K hK => ?_) AllReadyH.nil
    go_simp
    refine hK.out _ _ ?_ (fun hHeld2 => ?_)
    · exact hHeld
    clear hK K hHeld
    have hHeld := hHeld2
    clear hHeld2
    try simp only [Act.put, List.setIfInBounds_toArray, List.set_cons_zero, List.set_cons_succ]
    refine wpAnyH_take (i := 7) (oi := { dst := some 14, op := Go.Op.move (Go.Operand.tmp 21), type := 51, pos := "wide.go:41", after := #[{ on := 6, ground := Go.Ground.data }], guard := none }) (v := ?_) rfl (by kernel_rfl) (by kernel_rfl) (by kernel_rfl) (fun _ _ _ h => h) (Or.inl ⟨by rfl, ?_⟩) (by assumption) ?_
    rotate_left
    · intro w hSw
      have hcw := hSw.cell k hk
      go_simp
      try with_reducible rfl
    try simp only [Act.put, List.setIfInBounds_toArray, List.set_cons_zero, List.set_cons_succ]
    refine wpAnyH_take (i := 8) (oi := { dst := some 22, op := Go.Op.extract (Go.Operand.tmp 14) 0, type := 22, pos := "wide.go:41", after := #[{ on := 7, ground := Go.Ground.data }], guard := none }) (v := ?_) rfl (by kernel_rfl) (by kernel_rfl) (by kernel_rfl) (fun _ _ _ h => h) (Or.inl ⟨by rfl, ?_⟩) (by assumption) ?_
    rotate_left
    · intro w hSw
      have hcw := hSw.cell k hk
      go_simp
      try with_reducible rfl
    try simp only [Act.put, List.setIfInBounds_toArray, List.set_cons_zero, List.set_cons_succ]
    refine wpAnyH_take (i := 9) (oi := { dst := some 23, op := Go.Op.extract (Go.Operand.tmp 14) 1, type := 22, pos := "wide.go:41", after := #[{ on := 7, ground := Go.Ground.data }, { on := 11, ground := Go.Ground.gcOnly Go.Departure.lateStores }], guard := none }) (v := ?_) rfl (by kernel_rfl) (by kernel_rfl) (by kernel_rfl) (fun _ _ _ h => h) (Or.inl ⟨by rfl, ?_⟩) (by assumption) ?_
    rotate_left
    · intro w hSw
      have hcw := hSw.cell k hk
      go_simp
      try with_reducible rfl
    try simp only [Act.put, List.setIfInBounds_toArray, List.set_cons_zero, List.set_cons_succ]
    refine wpAnyH_take (i := 10) (oi := { dst := some 24, op := Go.Op.indexAddr 24 (Go.Operand.tmp 6) (Go.Operand.tmp 15), type := 0, pos := "wide.go:41", after := #[{ on := 0, ground := Go.Ground.data }, { on := 0, ground := Go.Ground.phase }, { on := 1, ground := Go.Ground.phase }, { on := 2, ground := Go.Ground.phase }, { on := 3, ground := Go.Ground.phase }, { on := 4, ground := Go.Ground.phase }, { on := 5, ground := Go.Ground.phase }, { on := 6, ground := Go.Ground.phase }, { on := 7, ground := Go.Ground.phase }, { on := 8, ground := Go.Ground.phase }, { on := 9, ground := Go.Ground.textOnly Go.Departure.lateStores }], guard := none }) (v := ?_) rfl (by kernel_rfl) (by kernel_rfl) (by kernel_rfl) (fun _ _ _ h => h) (Or.inl ⟨by rfl, ?_⟩) (by assumption) ?_
    rotate_left
    · intro w hSw
      have hcw := hSw.cell k hk
      go_simp
      try with_reducible rfl
    try simp only [Act.put, List.setIfInBounds_toArray, List.set_cons_zero, List.set_cons_succ]
    refine wpAnyH_ready (rs := [11]) (by kernel_rfl) (by simp) ?_
    refine AllReadyH.cons (o := { dst := none, op := Go.Op.store 22 (Go.Operand.tmp 24) (Go.Operand.tmp 22), type := 0, pos := "wide.go:41", after := #[{ on := 10, ground := Go.Ground.data }, { on := 8, ground := Go.Ground.data }, { on := 6, ground := Go.Ground.chain }, { on := 0, ground := Go.Ground.phase }, { on := 1, ground := Go.Ground.phase }, { on := 2, ground := Go.Ground.phase }, { on := 3, ground := Go.Ground.phase }, { on := 4, ground := Go.Ground.phase }, { on := 5, ground := Go.Ground.phase }, { on := 6, ground := Go.Ground.phase }, { on := 7, ground := Go.Ground.phase }, { on := 8, ground := Go.Ground.phase }, { on := 9, ground := Go.Ground.textOnly Go.Departure.lateStores }], guard := none }) rfl (fun K hK => ?_) AllReadyH.nil
    go_simp
    refine hK.out _ _ ?_ (fun hHeld2 => ?_)
    · exact hHeld.other (by omega) _ _
    clear hK K hHeld
    have hHeld := hHeld2
    clear hHeld2
    try simp only [Act.put, List.setIfInBounds_toArray, List.set_cons_zero, List.set_cons_succ]
    refine wpAnyH_ready (rs := [12]) (by kernel_rfl) (by simp) ?_
    refine AllReadyH.cons (o := { dst := none, op := Go.Op.store 22 (Go.Operand.tmp 7) (Go.Operand.tmp 23), type := 0, pos := "wide.go:41", after := #[{ on := 9, ground := Go.Ground.data }, { on := 11, ground := Go.Ground.chain }, { on := 0, ground := Go.Ground.phase }, { on := 1, ground := Go.Ground.phase }, { on := 2, ground := Go.Ground.phase }, { on := 3, ground := Go.Ground.phase }, { on := 4, ground := Go.Ground.phase }, { on := 5, ground := Go.Ground.phase }, { on := 6, ground := Go.Ground.phase }, { on := 7, ground := Go.Ground.phase }, { on := 8, ground := Go.Ground.phase }, { on := 9, ground := Go.Ground.phase }, { on := 10, ground := Go.Ground.phase }, { on := 11, ground := Go.Ground.phase }], guard := none }) rfl (fun K hK => ?_) AllReadyH.nil
    go_simp
    refine hK.out _ _ ?_ (fun hHeld2 => ?_)
    · exact hHeld.other (by omega) _ _
    clear hK K hHeld
    have hHeld := hHeld2
    clear hHeld2
    try simp only [Act.put, List.setIfInBounds_toArray, List.set_cons_zero, List.set_cons_succ]
    refine wpAnyH_done (by kernel_rfl) ?_ _
    refine ⟨⟨Nat.le_of_eq (by simp), fun q o _ hq ho => ?_⟩, trivial, ?_⟩
    · exact ((KeepsOthers.setCell W ⟨N + 1 + 1 + 1, k, none⟩ (.int .u64 s)).trans (KeepsOthers.setCell _ ⟨N + 1 + 1 + 1 + 1, 0, none⟩ (.int .u64 c))).same q o hq ho
    · show Five N w a b (subSt a b (pre ++ [⟨k, hk⟩])) _
      rw [H.out]
      exact five_drew (five_store hI k s c hk)
  case done =>
    rintro D ys W hD rfl hI hK
    rw [HR.out] at hI
    have hA : After5 N D w a b R.1 W := ⟨hI.1, hI.2.1, hI.2.2.2.1, ⟨_, hI.2.2.1⟩, hK, hI.2.2.2.2.2⟩
    gi_wp2
    refine wpIn_wide.2 ?_
    have ha3 := ha 3
    have hb3 := hb 3
    have hr3 := hRw 3
    by_cases hg : (qa != qb) = true
    · have hg3 : (qa == qb) = false := by revert hg; cases qa <;> cases qb <;> decide
      refine wp_region_noPanic ?_
      refine wp_region_held_drew (S := fun W' => After5 N D w a b R.1 W') (by kernel_rfl) (after_drew hA) (fun hHeld => ?_)
      refine wpAnyH_take (i := 0) (oi := { dst := some 25, op := Go.Op.load 24 (Go.Operand.tmp 6), type := 24, pos := "wide.go:43", after := #[], guard := none }) (v := ?_) rfl (by kernel_rfl) (by kernel_rfl) (by kernel_rfl) (fun _ _ _ h => h) (Or.inl ⟨by rfl, ?_⟩) (by assumption) ?_
      rotate_left
      · intro w hSw
        have k0 := hSw.2.2.1.cell 0 (by omega)
        have k1 := hSw.2.2.1.cell 1 (by omega)
        have k2 := hSw.2.2.1.cell 2 (by omega)
        have k3 := hSw.2.2.1.cell 3 (by omega)
        go_simp
        try with_reducible rfl
      try simp only [Act.put, List.setIfInBounds_toArray, List.set_cons_zero, List.set_cons_succ]
      refine wpAnyH_take (i := 1) (oi := { dst := some 26, op := Go.Op.load 24 (Go.Operand.tmp 2), type := 24, pos := "wide.go:43", after := #[], guard := none }) (v := ?_) rfl (by kernel_rfl) (by kernel_rfl) (by kernel_rfl) (fun _ _ _ h => h) (Or.inl ⟨by rfl, ?_⟩) (by assumption) ?_
      rotate_left
      · intro w hSw
        have k0 := hSw.1.cell 0 (by omega)
        have k1 := hSw.1.cell 1 (by omega)
        have k2 := hSw.1.cell 2 (by omega)
        have k3 := hSw.1.cell 3 (by omega)
        go_simp
        try with_reducible rfl
      try simp only [Act.put, List.setIfInBounds_toArray, List.set_cons_zero, List.set_cons_succ]
      refine wpAnyH_take (i := 3) (oi := { dst := some 28, op := Go.Op.load 24 (Go.Operand.tmp 3), type := 24, pos := "wide.go:43", after := #[], guard := none }) (v := ?_) rfl (by kernel_rfl) (by kernel_rfl) (by kernel_rfl) (fun _ _ _ h => h) (Or.inl ⟨by rfl, ?_⟩) (by assumption) ?_
      rotate_left
      · intro w hSw
        have k0 := hSw.2.1.cell 0 (by omega)
        have k1 := hSw.2.1.cell 1 (by omega)
        have k2 := hSw.2.1.cell 2 (by omega)
        have k3 := hSw.2.1.cell 3 (by omega)
        go_simp
        try with_reducible rfl
      try simp only [Act.put, List.setIfInBounds_toArray, List.set_cons_zero, List.set_cons_succ]
      refine wpAnyH_ready (rs := [2]) (by kernel_rfl) (by simp) ?_
      refine AllReadyH.cons (o := { dst := some 27, op := Go.Op.call { callee := Go.Callee.value (Go.Operand.func 48), args := #[Go.Operand.tmp 26], argTypes := #[24] }, type := 4, pos := "wide.go:43", after := #[{ on := 1, ground := Go.Ground.data }], guard := none }) rfl (fun K hK => ?_) AllReadyH.nil
      go_simp
      refine (below_held hN.symm a qa ha3 HQA.out _ hHeld).mono ?_
      rintro e W2 ⟨rfl, hA2⟩
      refine hK.out _ _ ?_ (fun hHeld2 => ?_)
      · exact hA2
      clear hK K hHeld
      have hHeld := hHeld2
      clear hHeld2
      try simp only [Act.put, List.setIfInBounds_toArray, List.set_cons_zero, List.set_cons_succ]
      refine wpAnyH_ready (rs := [4]) (by kernel_rfl) (by simp) ?_
      refine AllReadyH.cons (o := { dst := some 29, op := Go.Op.call { callee := Go.Callee.value (Go.Operand.func 48), args := #[Go.Operand.tmp 28], argTypes := #[24] }, type := 4, pos := "wide.go:43", after := #[{ on := 3, ground := Go.Ground.data }, { on := 2, ground := Go.Ground.chain }], guard := none }) rfl (fun K hK => ?_) AllReadyH.nil
      go_simp
      refine (below_held hN.symm b qb hb3 HQB.out _ hHeld).mono ?_
      rintro e W2 ⟨rfl, hA2⟩
      refine hK.out _ _ ?_ (fun hHeld2 => ?_)
      · exact hA2
      clear hK K hHeld
      have hHeld := hHeld2
      clear hHeld2
      try simp only [Act.put, List.setIfInBounds_toArray, List.set_cons_zero, List.set_cons_succ]
      refine wpAnyH_take (i := 5) (oi := { dst := some 30, op := Go.Op.binOp Go.BinOp.neq 4 (Go.Operand.tmp 27) (Go.Operand.tmp 29) 4, type := 4, pos := "wide.go:43", after := #[{ on := 2, ground := Go.Ground.data }, { on := 4, ground := Go.Ground.data }], guard := none }) (v := ?_) rfl (by kernel_rfl) (by kernel_rfl) (by kernel_rfl) (fun _ _ _ h => h) (Or.inl ⟨by rfl, ?_⟩) (by assumption) ?_
      rotate_left
      · intro w hSw
        go_simp
        try with_reducible rfl
      try simp only [Act.put, List.setIfInBounds_toArray, List.set_cons_zero, List.set_cons_succ]
      refine wpAnyH_take (i := 6) (oi := { dst := some 31, op := Go.Op.move (Go.Operand.tmp 30), type := 4, pos := "wide.go:43", after := #[{ on := 5, ground := Go.Ground.data }, { on := 4, ground := Go.Ground.chain }], guard := none }) (v := ?_) rfl (by kernel_rfl) (by kernel_rfl) (by kernel_rfl) (fun _ _ _ h => h) (Or.inl ⟨by rfl, ?_⟩) (by assumption) ?_
      rotate_left
      · intro w hSw
        go_simp
        try with_reducible rfl
      try simp only [Act.put, List.setIfInBounds_toArray, List.set_cons_zero, List.set_cons_succ]
      refine wpAnyH_take (i := 7) (oi := { dst := some 32, op := Go.Op.load 24 (Go.Operand.tmp 6), type := 24, pos := "wide.go:43", after := #[{ on := 6, ground := Go.Ground.guard }], guard := some (6, true) }) (v := ?_) rfl (by kernel_rfl) (by kernel_rfl) (by kernel_rfl) (fun _ _ _ h => h) (Or.inl ⟨by rfl, ?_⟩) (by assumption) ?_
      rotate_left
      · intro w hSw
        have k0 := hSw.2.2.1.cell 0 (by omega)
        have k1 := hSw.2.2.1.cell 1 (by omega)
        have k2 := hSw.2.2.1.cell 2 (by omega)
        have k3 := hSw.2.2.1.cell 3 (by omega)
        go_simp
        try with_reducible rfl
      try simp only [Act.put, List.setIfInBounds_toArray, List.set_cons_zero, List.set_cons_succ]
      refine wpAnyH_take (i := 9) (oi := { dst := some 34, op := Go.Op.load 24 (Go.Operand.tmp 2), type := 24, pos := "wide.go:43", after := #[{ on := 6, ground := Go.Ground.guard }], guard := some (6, true) }) (v := ?_) rfl (by kernel_rfl) (by kernel_rfl) (by kernel_rfl) (fun _ _ _ h => h) (Or.inl ⟨by rfl, ?_⟩) (by assumption) ?_
      rotate_left
      · intro w hSw
        have k0 := hSw.1.cell 0 (by omega)
        have k1 := hSw.1.cell 1 (by omega)
        have k2 := hSw.1.cell 2 (by omega)
        have k3 := hSw.1.cell 3 (by omega)
        go_simp
        try with_reducible rfl
      try simp only [Act.put, List.setIfInBounds_toArray, List.set_cons_zero, List.set_cons_succ]
      refine wpAnyH_ready (rs := [8]) (by kernel_rfl) (by simp) ?_
      refine AllReadyH.cons (o := { dst := some 33, op := Go.Op.call { callee := Go.Callee.value (Go.Operand.func 48), args := #[Go.Operand.tmp 32], argTypes := #[24] }, type := 4, pos := "wide.go:43", after := #[{ on := 7, ground := Go.Ground.data }, { on := 6, ground := Go.Ground.chain }, { on := 6, ground := Go.Ground.guard }], guard := some (6, true) }) rfl (fun K hK => ?_) AllReadyH.nil
      go_simp
      refine (below_held hN.symm R.1 qr hr3 HQR.out _ hHeld).mono ?_
      rintro e W2 ⟨rfl, hA2⟩
      refine hK.out _ _ ?_ (fun hHeld2 => ?_)
      · exact hA2
      clear hK K hHeld
      have hHeld := hHeld2
      clear hHeld2
      try simp only [Act.put, List.setIfInBounds_toArray, List.set_cons_zero, List.set_cons_succ]
      refine wpAnyH_ready (rs := [10]) (by kernel_rfl) (by simp) ?_
      refine AllReadyH.cons (o := { dst := some 35, op := Go.Op.call { callee := Go.Callee.value (Go.Operand.func 48), args := #[Go.Operand.tmp 34], argTypes := #[24] }, type := 4, pos := "wide.go:43", after := #[{ on := 9, ground := Go.Ground.data }, { on := 8, ground := Go.Ground.chain }, { on := 6, ground := Go.Ground.guard }], guard := some (6, true) }) rfl (fun K hK => ?_) AllReadyH.nil
      go_simp
      refine (below_held hN.symm a qa ha3 HQA.out _ hHeld).mono ?_
      rintro e W2 ⟨rfl, hA2⟩
      refine hK.out _ _ ?_ (fun hHeld2 => ?_)
      · exact hA2
      clear hK K hHeld
      have hHeld := hHeld2
      clear hHeld2
      try simp only [Act.put, List.setIfInBounds_toArray, List.set_cons_zero, List.set_cons_succ]
      refine wpAnyH_take (i := 11) (oi := { dst := some 36, op := Go.Op.binOp Go.BinOp.neq 4 (Go.Operand.tmp 33) (Go.Operand.tmp 35) 4, type := 4, pos := "wide.go:43", after := #[{ on := 8, ground := Go.Ground.data }, { on := 10, ground := Go.Ground.data }, { on := 6, ground := Go.Ground.guard }, { on := 13, ground := Go.Ground.gcOnly Go.Departure.lateStores }], guard := some (6, true) }) (v := ?_) rfl (by kernel_rfl) (by kernel_rfl) (by kernel_rfl) (fun _ _ _ h => h) (Or.inl ⟨by rfl, ?_⟩) (by assumption) ?_
      rotate_left
      · intro w hSw
        go_simp
        try with_reducible rfl
      try simp only [Act.put, List.setIfInBounds_toArray, List.set_cons_zero, List.set_cons_succ]
      refine wpAnyH_take (i := 12) (oi := { dst := some 37, op := Go.Op.pick (Go.Operand.tmp 31) (Go.Operand.tmp 36) (Go.Operand.const (Go.Value.bool false)), type := 4, pos := "wide.go:43", after := #[{ on := 6, ground := Go.Ground.data }, { on := 11, ground := Go.Ground.data }, { on := 13, ground := Go.Ground.gcOnly Go.Departure.lateStores }], guard := none }) (v := ?_) rfl (by kernel_rfl) (by kernel_rfl) (by kernel_rfl) (fun _ _ _ h => h) (Or.inl ⟨by rfl, ?_⟩) (by assumption) ?_
      rotate_left
      · intro w hSw
        go_simp
        try with_reducible rfl
      try simp only [Act.put, List.setIfInBounds_toArray, List.set_cons_zero, List.set_cons_succ]
      refine wpAnyH_ready (rs := [13]) (by kernel_rfl) (by simp) ?_
      refine AllReadyH.cons (o := { dst := none, op := Go.Op.store 24 (Go.Operand.tmp 4) (Go.Operand.tmp 25), type := 0, pos := "wide.go:43", after := #[{ on := 0, ground := Go.Ground.data }, { on := 10, ground := Go.Ground.chain }, { on := 0, ground := Go.Ground.phase }, { on := 1, ground := Go.Ground.textOnly Go.Departure.lateStores }, { on := 2, ground := Go.Ground.textOnly Go.Departure.lateStoresUnsure }, { on := 3, ground := Go.Ground.textOnly Go.Departure.lateStores }, { on := 4, ground := Go.Ground.textOnly Go.Departure.lateStoresUnsure }, { on := 5, ground := Go.Ground.textOnly Go.Departure.lateStores }, { on := 6, ground := Go.Ground.textOnly Go.Departure.lateStores }, { on := 7, ground := Go.Ground.textOnly Go.Departure.lateStores }, { on := 8, ground := Go.Ground.textOnly Go.Departure.lateStoresUnsure }, { on := 9, ground := Go.Ground.textOnly Go.Departure.lateStores }, { on := 10, ground := Go.Ground.textOnly Go.Departure.lateStoresUnsure }, { on := 11, ground := Go.Ground.textOnly Go.Departure.lateStores }, { on := 12, ground := Go.Ground.textOnly Go.Departure.lateStores }], guard := none }) rfl (fun K hK => ?_) AllReadyH.nil
      have hA3 := after_store hHeld
      obtain ⟨z, hz⟩ := hHeld.2.2.2.1
      have k0 := hz.cell 0 (by omega)
      have k1 := hz.cell 1 (by omega)
      have k2 := hz.cell 2 (by omega)
      have k3 := hz.cell 3 (by omega)
      have f0 := hz.frozen 0
      have f1 := hz.frozen 1
      have f2 := hz.frozen 2
      have f3 := hz.frozen 3
      clear hz
      go_simp
      refine hK.out _ _ ?_ (fun hHeld2 => ?_)
      · exact hA3.1
      clear hK K hHeld
      have hHeld := hHeld2
      clear hHeld2
      try simp only [Act.put, List.setIfInBounds_toArray, List.set_cons_zero, List.set_cons_succ]
      refine wpAnyH_take (i := 14) (oi := { dst := some 5, op := Go.Op.assign (Go.Operand.tmp 37), type := 4, pos := "wide.go:43", after := #[{ on := 12, ground := Go.Ground.data }, { on := 13, ground := Go.Ground.chain }, { on := 0, ground := Go.Ground.phase }, { on := 1, ground := Go.Ground.phase }, { on := 2, ground := Go.Ground.phase }, { on := 3, ground := Go.Ground.phase }, { on := 4, ground := Go.Ground.phase }, { on := 5, ground := Go.Ground.phase }, { on := 6, ground := Go.Ground.phase }, { on := 7, ground := Go.Ground.phase }, { on := 8, ground := Go.Ground.phase }, { on := 9, ground := Go.Ground.phase }, { on := 10, ground := Go.Ground.phase }, { on := 11, ground := Go.Ground.phase }, { on := 12, ground := Go.Ground.phase }, { on := 13, ground := Go.Ground.phase }], guard := none }) (v := ?_) rfl (by kernel_rfl) (by kernel_rfl) (by kernel_rfl) (fun _ _ _ h => h) (Or.inl ⟨by rfl, ?_⟩) (by assumption) ?_
      rotate_left
      · intro w hSw
        go_simp
        try with_reducible rfl
      try simp only [Act.put, List.setIfInBounds_toArray, List.set_cons_zero, List.set_cons_succ]
      refine wpAnyH_done (by kernel_rfl) ?_ _
      clear k0 k1 k2 k3 f0 f1 f2 f3 hHeld
      refine NoPanic.normal ?_
      obtain ⟨hA4, hZ⟩ := hA3
      gi_wp2
      obtain ⟨W3, hW3⟩ : ∃ W3, ((((W2.setCell ⟨N + 1 + 1, 0, none⟩ (.int .u64 (R.1 0))).setCell ⟨N + 1 + 1, 1, none⟩ (.int .u64 (R.1 1))).setCell ⟨N + 1 + 1, 2, none⟩ (.int .u64 (R.1 2))).setCell ⟨N + 1 + 1, 3, none⟩ (.int .u64 (R.1 3))) = W3 := ⟨_, rfl⟩
      rw [hW3] at hA4 hZ ⊢
      have hK2 := hA4.2.2.2.2.1
      refine ⟨by simp, .inl ⟨_, _, rfl, run_takeDeferred hK2, ?_⟩⟩
      have hZ2 : At4 (W3.putObj D (.deferred none)) (N + 1 + 1) R.1 := At4.own (N + 1 + 1) (fun (_ : Unit) => R.1) () _ _ _ hZ (grownBy_putObj' _ D (.deferred none)) (fun r e => by cases e; exact ⟨_, hK2, rfl⟩)
      have k0 := hZ2.cell 0 (by omega)
      have k1 := hZ2.cell 1 (by omega)
      have k2 := hZ2.cell 2 (by omega)
      have k3 := hZ2.cell 3 (by omega)
      refine ⟨.tuple #[.agg #[.int .u64 (R.1 0), .int .u64 (R.1 1), .int .u64 (R.1 2), .int .u64 (R.1 3)], .bool (qr != qa)], by simp [results, Try.results12, go_sem, k0, k1, k2, k3] <;> (cases qr <;> cases qa <;> rfl), by rw [hg]; rfl, ?_⟩
      rw [hN]
      exact hA4.2.2.2.2.2.trans (belowK_b (w := W1) (by omega) _ D _ _ hD hK2 rfl rfl)
    · have hg2 : (qa != qb) = false := by simpa using hg
      have hg3 : (qa == qb) = true := by revert hg; cases qa <;> cases qb <;> decide
      refine wp_region_noPanic ?_
      refine wp_region_held_drew (S := fun W' => After5 N D w a b R.1 W') (by kernel_rfl) (after_drew hA) (fun hHeld => ?_)
      refine wpAnyH_take (i := 0) (oi := { dst := some 25, op := Go.Op.load 24 (Go.Operand.tmp 6), type := 24, pos := "wide.go:43", after := #[], guard := none }) (v := ?_) rfl (by kernel_rfl) (by kernel_rfl) (by kernel_rfl) (fun _ _ _ h => h) (Or.inl ⟨by rfl, ?_⟩) (by assumption) ?_
      rotate_left
      · intro w hSw
        have k0 := hSw.2.2.1.cell 0 (by omega)
        have k1 := hSw.2.2.1.cell 1 (by omega)
        have k2 := hSw.2.2.1.cell 2 (by omega)
        have k3 := hSw.2.2.1.cell 3 (by omega)
        go_simp
        try with_reducible rfl
      try simp only [Act.put, List.setIfInBounds_toArray, List.set_cons_zero, List.set_cons_succ]
      refine wpAnyH_take (i := 1) (oi := { dst := some 26, op := Go.Op.load 24 (Go.Operand.tmp 2), type := 24, pos := "wide.go:43", after := #[], guard := none }) (v := ?_) rfl (by kernel_rfl) (by kernel_rfl) (by kernel_rfl) (fun _ _ _ h => h) (Or.inl ⟨by rfl, ?_⟩) (by assumption) ?_
      rotate_left
      · intro w hSw
        have k0 := hSw.1.cell 0 (by omega)
        have k1 := hSw.1.cell 1 (by omega)
        have k2 := hSw.1.cell 2 (by omega)
        have k3 := hSw.1.cell 3 (by omega)
        go_simp
        try with_reducible rfl
      try simp only [Act.put, List.setIfInBounds_toArray, List.set_cons_zero, List.set_cons_succ]
      refine wpAnyH_take (i := 3) (oi := { dst := some 28, op := Go.Op.load 24 (Go.Operand.tmp 3), type := 24, pos := "wide.go:43", after := #[], guard := none }) (v := ?_) rfl (by kernel_rfl) (by kernel_rfl) (by kernel_rfl) (fun _ _ _ h => h) (Or.inl ⟨by rfl, ?_⟩) (by assumption) ?_
      rotate_left
      · intro w hSw
        have k0 := hSw.2.1.cell 0 (by omega)
        have k1 := hSw.2.1.cell 1 (by omega)
        have k2 := hSw.2.1.cell 2 (by omega)
        have k3 := hSw.2.1.cell 3 (by omega)
        go_simp
        try with_reducible rfl
      try simp only [Act.put, List.setIfInBounds_toArray, List.set_cons_zero, List.set_cons_succ]
      refine wpAnyH_ready (rs := [2]) (by kernel_rfl) (by simp) ?_
      refine AllReadyH.cons (o := { dst := some 27, op := Go.Op.call { callee := Go.Callee.value (Go.Operand.func 48), args := #[Go.Operand.tmp 26], argTypes := #[24] }, type := 4, pos := "wide.go:43", after := #[{ on := 1, ground := Go.Ground.data }], guard := none }) rfl (fun K hK => ?_) AllReadyH.nil
      go_simp
      refine (below_held hN.symm a qa ha3 HQA.out _ hHeld).mono ?_
      rintro e W2 ⟨rfl, hA2⟩
      refine hK.out _ _ ?_ (fun hHeld2 => ?_)
      · exact hA2
      clear hK K hHeld
      have hHeld := hHeld2
      clear hHeld2
      try simp only [Act.put, List.setIfInBounds_toArray, List.set_cons_zero, List.set_cons_succ]
      refine wpAnyH_ready (rs := [4]) (by kernel_rfl) (by simp) ?_
      refine AllReadyH.cons (o := { dst := some 29, op := Go.Op.call { callee := Go.Callee.value (Go.Operand.func 48), args := #[Go.Operand.tmp 28], argTypes := #[24] }, type := 4, pos := "wide.go:43", after := #[{ on := 3, ground := Go.Ground.data }, { on := 2, ground := Go.Ground.chain }], guard := none }) rfl (fun K hK => ?_) AllReadyH.nil
      go_simp
      refine (below_held hN.symm b qb hb3 HQB.out _ hHeld).mono ?_
      rintro e W2 ⟨rfl, hA2⟩
      refine hK.out _ _ ?_ (fun hHeld2 => ?_)
      · exact hA2
      clear hK K hHeld
      have hHeld := hHeld2
      clear hHeld2
      try simp only [Act.put, List.setIfInBounds_toArray, List.set_cons_zero, List.set_cons_succ]
      refine wpAnyH_take (i := 5) (oi := { dst := some 30, op := Go.Op.binOp Go.BinOp.neq 4 (Go.Operand.tmp 27) (Go.Operand.tmp 29) 4, type := 4, pos := "wide.go:43", after := #[{ on := 2, ground := Go.Ground.data }, { on := 4, ground := Go.Ground.data }], guard := none }) (v := ?_) rfl (by kernel_rfl) (by kernel_rfl) (by kernel_rfl) (fun _ _ _ h => h) (Or.inl ⟨by rfl, ?_⟩) (by assumption) ?_
      rotate_left
      · intro w hSw
        go_simp
        try with_reducible rfl
      try simp only [Act.put, List.setIfInBounds_toArray, List.set_cons_zero, List.set_cons_succ]
      refine wpAnyH_take (i := 6) (oi := { dst := some 31, op := Go.Op.move (Go.Operand.tmp 30), type := 4, pos := "wide.go:43", after := #[{ on := 5, ground := Go.Ground.data }, { on := 4, ground := Go.Ground.chain }], guard := none }) (v := ?_) rfl (by kernel_rfl) (by kernel_rfl) (by kernel_rfl) (fun _ _ _ h => h) (Or.inl ⟨by rfl, ?_⟩) (by assumption) ?_
      rotate_left
      · intro w hSw
        go_simp
        try with_reducible rfl
      try simp only [Act.put, List.setIfInBounds_toArray, List.set_cons_zero, List.set_cons_succ]
      refine wpAnyH_take (i := 7) (oi := { dst := some 32, op := Go.Op.load 24 (Go.Operand.tmp 6), type := 24, pos := "wide.go:43", after := #[{ on := 6, ground := Go.Ground.guard }], guard := some (6, true) }) (v := undef) rfl (by kernel_rfl) (by kernel_rfl) (by kernel_rfl) (fun _ _ _ h => h) (Or.inr ⟨by rfl, rfl⟩) (by assumption) ?_
      try simp only [Act.put, List.setIfInBounds_toArray, List.set_cons_zero, List.set_cons_succ]
      refine wpAnyH_take (i := 9) (oi := { dst := some 34, op := Go.Op.load 24 (Go.Operand.tmp 2), type := 24, pos := "wide.go:43", after := #[{ on := 6, ground := Go.Ground.guard }], guard := some (6, true) }) (v := undef) rfl (by kernel_rfl) (by kernel_rfl) (by kernel_rfl) (fun _ _ _ h => h) (Or.inr ⟨by rfl, rfl⟩) (by assumption) ?_
      try simp only [Act.put, List.setIfInBounds_toArray, List.set_cons_zero, List.set_cons_succ]
      refine wpAnyH_ready (rs := [8]) (by kernel_rfl) (by simp) ?_
      refine AllReadyH.cons (o := { dst := some 33, op := Go.Op.call { callee := Go.Callee.value (Go.Operand.func 48), args := #[Go.Operand.tmp 32], argTypes := #[24] }, type := 4, pos := "wide.go:43", after := #[{ on := 7, ground := Go.Ground.data }, { on := 6, ground := Go.Ground.chain }, { on := 6, ground := Go.Ground.guard }], guard := some (6, true) }) rfl (fun K hK => ?_) AllReadyH.nil
      go_simp
      refine hK.out _ _ ?_ (fun hHeld2 => ?_)
      · exact hHeld
      clear hK K hHeld
      have hHeld := hHeld2
      clear hHeld2
      try simp only [Act.put, List.setIfInBounds_toArray, List.set_cons_zero, List.set_cons_succ]
      refine wpAnyH_ready (rs := [10]) (by kernel_rfl) (by simp) ?_
      refine AllReadyH.cons (o := { dst := some 35, op := Go.Op.call { callee := Go.Callee.value (Go.Operand.func 48), args := #[Go.Operand.tmp 34], argTypes := #[24] }, type := 4, pos := "wide.go:43", after := #[{ on := 9, ground := Go.Ground.data }, { on := 8, ground := Go.Ground.chain }, { on := 6, ground := Go.Ground.guard }], guard := some (6, true) }) rfl (fun K hK => ?_) AllReadyH.nil
      go_simp
      refine hK.out _ _ ?_ (fun hHeld2 => ?_)
      · exact hHeld
      clear hK K hHeld
      have hHeld := hHeld2
      clear hHeld2
      try simp only [Act.put, List.setIfInBounds_toArray, List.set_cons_zero, List.set_cons_succ]
      refine wpAnyH_take (i := 11) (oi := { dst := some 36, op := Go.Op.binOp Go.BinOp.neq 4 (Go.Operand.tmp 33) (Go.Operand.tmp 35) 4, type := 4, pos := "wide.go:43", after := #[{ on := 8, ground := Go.Ground.data }, { on := 10, ground := Go.Ground.data }, { on := 6, ground := Go.Ground.guard }, { on := 13, ground := Go.Ground.gcOnly Go.Departure.lateStores }], guard := some (6, true) }) (v := undef) rfl (by kernel_rfl) (by kernel_rfl) (by kernel_rfl) (fun _ _ _ h => h) (Or.inr ⟨by rfl, rfl⟩) (by assumption) ?_
      try simp only [Act.put, List.setIfInBounds_toArray, List.set_cons_zero, List.set_cons_succ]
      refine wpAnyH_take (i := 12) (oi := { dst := some 37, op := Go.Op.pick (Go.Operand.tmp 31) (Go.Operand.tmp 36) (Go.Operand.const (Go.Value.bool false)), type := 4, pos := "wide.go:43", after := #[{ on := 6, ground := Go.Ground.data }, { on := 11, ground := Go.Ground.data }, { on := 13, ground := Go.Ground.gcOnly Go.Departure.lateStores }], guard := none }) (v := ?_) rfl (by kernel_rfl) (by kernel_rfl) (by kernel_rfl) (fun _ _ _ h => h) (Or.inl ⟨by rfl, ?_⟩) (by assumption) ?_
      rotate_left
      · intro w hSw
        go_simp
        try with_reducible rfl
      try simp only [Act.put, List.setIfInBounds_toArray, List.set_cons_zero, List.set_cons_succ]
      refine wpAnyH_ready (rs := [13]) (by kernel_rfl) (by simp) ?_
      refine AllReadyH.cons (o := { dst := none, op := Go.Op.store 24 (Go.Operand.tmp 4) (Go.Operand.tmp 25), type := 0, pos := "wide.go:43", after := #[{ on := 0, ground := Go.Ground.data }, { on := 10, ground := Go.Ground.chain }, { on := 0, ground := Go.Ground.phase }, { on := 1, ground := Go.Ground.textOnly Go.Departure.lateStores }, { on := 2, ground := Go.Ground.textOnly Go.Departure.lateStoresUnsure }, { on := 3, ground := Go.Ground.textOnly Go.Departure.lateStores }, { on := 4, ground := Go.Ground.textOnly Go.Departure.lateStoresUnsure }, { on := 5, ground := Go.Ground.textOnly Go.Departure.lateStores }, { on := 6, ground := Go.Ground.textOnly Go.Departure.lateStores }, { on := 7, ground := Go.Ground.textOnly Go.Departure.lateStores }, { on := 8, ground := Go.Ground.textOnly Go.Departure.lateStoresUnsure }, { on := 9, ground := Go.Ground.textOnly Go.Departure.lateStores }, { on := 10, ground := Go.Ground.textOnly Go.Departure.lateStoresUnsure }, { on := 11, ground := Go.Ground.textOnly Go.Departure.lateStores }, { on := 12, ground := Go.Ground.textOnly Go.Departure.lateStores }], guard := none }) rfl (fun K hK => ?_) AllReadyH.nil
      have hA3 := after_store hHeld
      obtain ⟨z, hz⟩ := hHeld.2.2.2.1
      have k0 := hz.cell 0 (by omega)
      have k1 := hz.cell 1 (by omega)
      have k2 := hz.cell 2 (by omega)
      have k3 := hz.cell 3 (by omega)
      have f0 := hz.frozen 0
      have f1 := hz.frozen 1
      have f2 := hz.frozen 2
      have f3 := hz.frozen 3
      clear hz
      go_simp
      refine hK.out _ _ ?_ (fun hHeld2 => ?_)
      · exact hA3.1
      clear hK K hHeld
      have hHeld := hHeld2
      clear hHeld2
      try simp only [Act.put, List.setIfInBounds_toArray, List.set_cons_zero, List.set_cons_succ]
      refine wpAnyH_take (i := 14) (oi := { dst := some 5, op := Go.Op.assign (Go.Operand.tmp 37), type := 4, pos := "wide.go:43", after := #[{ on := 12, ground := Go.Ground.data }, { on := 13, ground := Go.Ground.chain }, { on := 0, ground := Go.Ground.phase }, { on := 1, ground := Go.Ground.phase }, { on := 2, ground := Go.Ground.phase }, { on := 3, ground := Go.Ground.phase }, { on := 4, ground := Go.Ground.phase }, { on := 5, ground := Go.Ground.phase }, { on := 6, ground := Go.Ground.phase }, { on := 7, ground := Go.Ground.phase }, { on := 8, ground := Go.Ground.phase }, { on := 9, ground := Go.Ground.phase }, { on := 10, ground := Go.Ground.phase }, { on := 11, ground := Go.Ground.phase }, { on := 12, ground := Go.Ground.phase }, { on := 13, ground := Go.Ground.phase }], guard := none }) (v := ?_) rfl (by kernel_rfl) (by kernel_rfl) (by kernel_rfl) (fun _ _ _ h => h) (Or.inl ⟨by rfl, ?_⟩) (by assumption) ?_
      rotate_left
      · intro w hSw
        go_simp
        try with_reducible rfl
      try simp only [Act.put, List.setIfInBounds_toArray, List.set_cons_zero, List.set_cons_succ]
      refine wpAnyH_done (by kernel_rfl) ?_ _
      clear k0 k1 k2 k3 f0 f1 f2 f3 hHeld
      refine NoPanic.normal ?_
      obtain ⟨hA4, hZ⟩ := hA3
      gi_wp2
      obtain ⟨W3, hW3⟩ : ∃ W3, ((((W2.setCell ⟨N + 1 + 1, 0, none⟩ (.int .u64 (R.1 0))).setCell ⟨N + 1 + 1, 1, none⟩ (.int .u64 (R.1 1))).setCell ⟨N + 1 + 1, 2, none⟩ (.int .u64 (R.1 2))).setCell ⟨N + 1 + 1, 3, none⟩ (.int .u64 (R.1 3))) = W3 := ⟨_, rfl⟩
      rw [hW3] at hA4 hZ ⊢
      have hK2 := hA4.2.2.2.2.1
      refine ⟨by simp, .inl ⟨_, _, rfl, run_takeDeferred hK2, ?_⟩⟩
      have hZ2 : At4 (W3.putObj D (.deferred none)) (N + 1 + 1) R.1 := At4.own (N + 1 + 1) (fun (_ : Unit) => R.1) () _ _ _ hZ (grownBy_putObj' _ D (.deferred none)) (fun r e => by cases e; exact ⟨_, hK2, rfl⟩)
      have k0 := hZ2.cell 0 (by omega)
      have k1 := hZ2.cell 1 (by omega)
      have k2 := hZ2.cell 2 (by omega)
      have k3 := hZ2.cell 3 (by omega)
      refine ⟨.tuple #[.agg #[.int .u64 (R.1 0), .int .u64 (R.1 1), .int .u64 (R.1 2), .int .u64 (R.1 3)], .bool (false)], by simp [results, Try.results12, go_sem, k0, k1, k2, k3] <;> (cases qr <;> cases qa <;> rfl), by rw [hg2]; rfl, ?_⟩
      rw [hN]
      exact hA4.2.2.2.2.2.trans (belowK_b (w := W1) (by omega) _ D _ _ hD hK2 rfl rfl)
  case stop =>
    rintro D c pre W _ _ h _
    exact h.elim

end Go.Proofs.Ytecgclkjglkkbaa
