/- Contracts of the document's own functions Of and Int, for every input. -/
import Derived.Test.YtecgclkjglkkbaaR7
namespace Go.Proofs.Ytecgclkjglkkbaa
open Go Go.RowKit Go.Shelf
set_option linter.unusedSimpArgs false
set_option linter.unusedVariables false

/-- The words of an int, the first k of them. -/
def ofSt (n : Int) (k : Nat) : Nat → Nat := fun i => if i = 0 then (n % 18446744073709551616).toNat else if i < k then (if n < 0 then 18446744073709551615 else 0) else 0
theorem ofSt_up (n : Int) (k : Nat) (hk : 1 ≤ k) (hn : n < 0) : upd (ofSt n k) k 18446744073709551615 = ofSt n (k + 1) := by
  funext i
  unfold upd ofSt
  by_cases h : i = k
  · subst h
    rw [if_pos rfl, if_neg (by omega), if_pos (by omega), if_pos hn]
  · rw [if_neg h]
    by_cases h2 : i < k
    · rw [if_pos h2, if_pos (show i < k + 1 by omega)]
    · rw [if_neg h2, if_neg (show ¬ i < k + 1 by omega)]
theorem ofSt_all (n : Int) (i : Nat) (hi : i < 4) : ofSt n 4 i = ofR n i := by
  unfold ofSt ofR
  by_cases h : i = 0
  · rw [if_pos h, if_pos h]
  · rw [if_neg h, if_neg h, if_pos hi]
theorem ofSt_plus (n : Int) (hn : ¬ n < 0) (i : Nat) (hi : i < 4) : ofSt n 1 i = ofR n i := by
  unfold ofSt ofR
  by_cases h : i = 0
  · rw [if_pos h, if_pos h]
  · rw [if_neg h, if_neg h, if_neg (by omega), if_neg hn]

set_option maxRecDepth 100000 in
set_option maxHeartbeats 1000000 in
theorem refof_any (n : Int) (r : Nat → Nat) (h1 : -9223372036854775808 ≤ n) (h2 : n ≤ 9223372036854775807) (hr : ∀ i, i < 4 → (if n < 0 then ofSt n 4 else ofSt n 1) i = r i) (w : World) : Calls Try.prog 23 #[.int .i64 n] w fun ee w' => ee = .returned (.agg #[.int .u64 (r 0), .int .u64 (r 1), .int .u64 (r 2), .int .u64 (r 3)]) ∧ Below w.heap.size w w' := by
  have r0 := hr 0 (by omega)
  have r1 := hr 1 (by omega)
  have r2 := hr 2 (by omega)
  have r3 := hr 3 (by omega)
  clear hr
  rw [← r0, ← r1, ← r2, ← r3]
  clear r0 r1 r2 r3
  have e0 : IntKind.u64.wrap n = ((ofSt n 1 0 : Nat) : Int) := by rw [IntKind.wrap_u64]; simp only [ofSt, if_true]; omega
  have hA : At4 (w.alloc (.cells #[.int .u64 0, .int .u64 0, .int .u64 0, .int .u64 0] 24)) w.heap.size Zr := At4.new w Zr
  have hA2 := At4.new (w.alloc (.cells #[.int .u64 0, .int .u64 0, .int .u64 0, .int .u64 0] 24)) (ofSt n 1)
  have hZ := hA.alloc (.cells #[.int .u64 (ofSt n 1 0), .int .u64 (ofSt n 1 1), .int .u64 (ofSt n 1 2), .int .u64 (ofSt n 1 3)] 24)
  rw [World.size_alloc] at hA2
  have hB : Below w.heap.size w ((w.alloc (.cells #[.int .u64 0, .int .u64 0, .int .u64 0, .int .u64 0] 24)).alloc (.cells #[.int .u64 (ofSt n 1 0), .int .u64 (ofSt n 1 1), .int .u64 (ofSt n 1 2), .int .u64 (ofSt n 1 3)] 24)) := ((Below.refl _ w).alloc (Nat.le_refl _) _).alloc (by simp) _
  have g1 : ofSt n 1 1 = 0 := rfl
  have g2 : ofSt n 1 2 = 0 := rfl
  have g3 : ofSt n 1 3 = 0 := rfl
  rw [g1, g2, g3] at hB hZ hA2
  clear hA
  obtain ⟨x, hx⟩ : ∃ x, ofSt n 1 0 = x := ⟨_, rfl⟩
  rw [hx] at e0 hB hZ hA2
  have E0 := Lib.hid e0
  have X0 := Lib.hid hx
  clear e0 g1 g2 g3 hx
  by_cases hn : n < 0
  · rw [if_pos hn]
    go_enter Try.func23, Try.ntmps23
    go_wp2
    rw [E0.out]
    obtain ⟨V, hV⟩ : ∃ V, ((w.alloc (.cells #[.int .u64 0, .int .u64 0, .int .u64 0, .int .u64 0] 24)).alloc (.cells #[.int .u64 x, .int .u64 0, .int .u64 0, .int .u64 0] 24)) = V := ⟨_, rfl⟩
    have hV2 : (w.alloc (.cells #[.int .u64 0, .int .u64 0, .int .u64 0, .int .u64 0] 24)).alloc (.cells #[.int .u64 (x : Int), .int .u64 ((0 : Nat) : Int), .int .u64 ((0 : Nat) : Int), .int .u64 ((0 : Nat) : Int)] 24) = V := hV
    rw [hV2] at hA2 hZ hB
    rw [hV]
    clear hV hV2
    obtain ⟨N, hN⟩ : ∃ N, w.heap.size = N := ⟨_, rfl⟩
    rw [hN] at hA2 hZ hB ⊢
    go_loopw [4] (fun v4 wr => ∃ k : Nat, 1 ≤ k ∧ k ≤ 4 ∧ v4 = .int .i64 k ∧ At4 wr (N + 1) (ofSt n k) ∧ At4 wr N Zr ∧ Below N w wr) (fun v4 _ => 4 - (intOf v4).toNat)
    case atStart => exact ⟨1, by omega, by omega, rfl, hA2, hZ, hB⟩
    case round =>
      clear hA2 hZ hB
      obtain ⟨k, hk1, hk, rfl, hA, hZ, hB⟩ := hrel
      by_cases hlt : k < 4
      · have hki : (k : Int) < 4 := by omega
        have hs := hA.set k 18446744073709551615 hlt
        rw [ofSt_up n k hk1 hn] at hs
        have f := hA.frozen k
        have c := hA.cell k hlt
        obtain ⟨y, hy⟩ : ∃ y, ofSt n k k = y := ⟨_, rfl⟩
        rw [hy] at c
        clear hy
        go_wp2
        go_roundw
        case rel => exact ⟨k + 1, by omega, by omega, by go_num, hs, hZ.other (by omega) _ _, hB.setCell (p := ⟨N + 1, k, none⟩) (by show N ≤ N + 1; omega) _⟩
        case measure => simp [intOf]; omega
      · obtain rfl : k = 4 := by omega
        have c0 := hA.cell 0 (by omega)
        have c1 := hA.cell 1 (by omega)
        have c2 := hA.cell 2 (by omega)
        have c3 := hA.cell 3 (by omega)
        have z0 := hZ.cell 0 (by omega)
        have z1 := hZ.cell 1 (by omega)
        have z2 := hZ.cell 2 (by omega)
        have z3 := hZ.cell 3 (by omega)
        have f0 := hZ.frozen 0
        have f1 := hZ.frozen 1
        have f2 := hZ.frozen 2
        have f3 := hZ.frozen 3
        go_wp2
        refine bodyPost_ret (v := .agg #[.int .u64 (ofSt n 4 0), .int .u64 (ofSt n 4 1), .int .u64 (ofSt n 4 2), .int .u64 (ofSt n 4 3)]) (by simp [results, Try.results23, go_sem, z0, z1, z2, z3]) rfl ⟨rfl, ?_⟩
        rw [hN]
        exact below4 hB (Nat.le_refl _) _ _ _ _
  · rw [if_neg hn]
    have hnx : n = (x : Int) := by have := E0.out; rw [IntKind.wrap_u64] at this; omega
    subst hnx
    clear E0 X0
    go_enter Try.func23, Try.ntmps23
    go_wp2
    obtain ⟨V, hV⟩ : ∃ V, ((w.alloc (.cells #[.int .u64 0, .int .u64 0, .int .u64 0, .int .u64 0] 24)).alloc (.cells #[.int .u64 x, .int .u64 0, .int .u64 0, .int .u64 0] 24)) = V := ⟨_, rfl⟩
    have hV2 : (w.alloc (.cells #[.int .u64 0, .int .u64 0, .int .u64 0, .int .u64 0] 24)).alloc (.cells #[.int .u64 (x : Int), .int .u64 ((0 : Nat) : Int), .int .u64 ((0 : Nat) : Int), .int .u64 ((0 : Nat) : Int)] 24) = V := hV
    rw [hV2] at hA2 hZ hB
    rw [hV]
    clear hV hV2
    obtain ⟨N, hN⟩ : ∃ N, w.heap.size = N := ⟨_, rfl⟩
    rw [hN] at hA2 hZ hB ⊢
    go_loopw [4] (fun v4 wr => v4 = .int .i64 1 ∧ At4 wr (N + 1) (ofSt x 1) ∧ At4 wr N Zr ∧ Below N w wr) (fun v4 _ => 4 - (intOf v4).toNat)
    case atStart => exact ⟨rfl, hA2, hZ, hB⟩
    case round =>
      clear hA2 hZ hB
      obtain ⟨rfl, hA, hZ, hB⟩ := hrel
      have c0 := hA.cell 0 (by omega)
      have c1 := hA.cell 1 (by omega)
      have c2 := hA.cell 2 (by omega)
      have c3 := hA.cell 3 (by omega)
      have z0 := hZ.cell 0 (by omega)
      have z1 := hZ.cell 1 (by omega)
      have z2 := hZ.cell 2 (by omega)
      have z3 := hZ.cell 3 (by omega)
      have f0 := hZ.frozen 0
      have f1 := hZ.frozen 1
      have f2 := hZ.frozen 2
      have f3 := hZ.frozen 3
      go_wp2
      refine bodyPost_ret (v := .agg #[.int .u64 (ofSt x 1 0), .int .u64 (ofSt x 1 1), .int .u64 (ofSt x 1 2), .int .u64 (ofSt x 1 3)]) (by simp [results, Try.results23, go_sem, z0, z1, z2, z3]) rfl ⟨rfl, ?_⟩
      rw [hN]
      exact below4 hB (Nat.le_refl _) _ _ _ _
theorem refof_x (n : Int) (h1 : -9223372036854775808 ≤ n) (h2 : n ≤ 9223372036854775807) (w : World) : Calls Try.prog 23 #[.int .i64 n] w fun ee w' => ee = .returned (.agg #[.int .u64 ((ofR n) 0), .int .u64 ((ofR n) 1), .int .u64 ((ofR n) 2), .int .u64 ((ofR n) 3)]) ∧ Below w.heap.size w w' :=
  refof_any n (ofR n) h1 h2 (fun i hi => by
    by_cases hn : n < 0
    · rw [if_pos hn]; exact ofSt_all n i hi
    · rw [if_neg hn]; exact ofSt_plus n hn i hi) w

end Go.Proofs.Ytecgclkjglkkbaa
