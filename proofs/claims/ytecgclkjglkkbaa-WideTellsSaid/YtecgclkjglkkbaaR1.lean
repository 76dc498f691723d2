/- Contracts of the document's own functions of layer 2: low, digits, wide, not, for every input. -/
import Derived.Test.YtecgclkjglkkbaaLW
namespace Go.Proofs.Ytecgclkjglkkbaa
open Go Go.RowKit Go.Shelf
set_option linter.unusedSimpArgs false
set_option linter.unusedVariables false

theorem low_r (a : Nat → Nat) (ha : Wds a) (w : World) : Calls Try.prog 52 #[.agg #[.int .u64 (a 0), .int .u64 (a 1), .int .u64 (a 2), .int .u64 (a 3)]] w fun e w' => e = .returned (.bool (lowB a)) ∧ Below w.heap.size w w' := by
  have h3 := ha 3
  have e : (((a 3 : Int) / 9223372036854775808) == 1) = lowB a := by
    rw [Bool.eq_iff_iff]
    simp only [beq_iff_eq, lowB, decide_eq_true_eq]
    omega
  have E := Lib.hid e
  clear e
  go_enter Try.func52, Try.ntmps52
  go_wp2
  go_ret
  exact ⟨congrArg (fun b => Ending.returned (.bool b)) E.out, (Below.refl _ _).alloc (Nat.le_refl _) _⟩

/-- The digits by 2^32. -/
def digR (a : Nat → Nat) : Nat → Nat := fun i => if i % 2 = 0 then a (i / 2) % 4294967296 else a (i / 2) / 4294967296
/-- Digits, each below 2^32. -/
def Digs (d : Nat → Nat) : Prop := ∀ i, d i < 4294967296
theorem digR_digs {a : Nat → Nat} (ha : Wds a) : Digs (digR a) := by
  intro i
  have := ha (i / 2)
  unfold digR
  split <;> omega

theorem digits_r (a : Nat → Nat) (ha : Wds a) (w : World) : Calls Try.prog 51 #[.agg #[.int .u64 (a 0), .int .u64 (a 1), .int .u64 (a 2), .int .u64 (a 3)]] w fun e w' =>
    e = .returned (.agg #[.int .u64 (digR a 0), .int .u64 (digR a 1), .int .u64 (digR a 2), .int .u64 (digR a 3), .int .u64 (digR a 4), .int .u64 (digR a 5), .int .u64 (digR a 6), .int .u64 (digR a 7)]) ∧ Below w.heap.size w w' := by
  have m : ∀ n : Nat, (n : Int) % 4294967296 = ((n % 4294967296 : Nat) : Int) := fun n => by omega
  have q : ∀ n : Nat, (n : Int) / 4294967296 = ((n / 4294967296 : Nat) : Int) := fun n => by omega
  have h0 := ha 0
  have h1 := ha 1
  have h2 := ha 2
  have h3 := ha 3
  have M := Lib.hid m
  have Q := Lib.hid q
  clear m q
  go_enter Try.func51, Try.ntmps51
  go_wp2
  simp only [M.out, Q.out]
  refine bodyPost_ret (v := .agg #[.int .u64 (digR a 0), .int .u64 (digR a 1), .int .u64 (digR a 2), .int .u64 (digR a 3), .int .u64 (digR a 4), .int .u64 (digR a 5), .int .u64 (digR a 6), .int .u64 (digR a 7)]) (by simp [results, Try.results51, go_sem, digR]) rfl ⟨rfl, ?_⟩
  exact ((Below.refl _ w).alloc (Nat.le_refl _) _).alloc (by simp) _

/-- The words of eight digits. -/
def widR (d : Nat → Nat) : Nat → Nat := fun i => d (2 * i + 1) * 4294967296 + d (2 * i)
theorem widR_words {d : Nat → Nat} (hd : Digs d) : Wds (widR d) := by
  intro i
  have := hd (2 * i + 1)
  have := hd (2 * i)
  unfold widR
  omega

theorem wide_r (d : Nat → Nat) (hd : Digs d) (w : World) : Calls Try.prog 49 #[.agg #[.int .u64 (d 0), .int .u64 (d 1), .int .u64 (d 2), .int .u64 (d 3), .int .u64 (d 4), .int .u64 (d 5), .int .u64 (d 6), .int .u64 (d 7)]] w fun e w' => e = .returned (.agg #[.int .u64 (widR d 0), .int .u64 (widR d 1), .int .u64 (widR d 2), .int .u64 (widR d 3)]) ∧ Below w.heap.size w w' := by
  have h0 := hd 0; have h1 := hd 1; have h2 := hd 2; have h3 := hd 3; have h4 := hd 4; have h5 := hd 5; have h6 := hd 6; have h7 := hd 7
  have e0 : ((widR d 0 : Nat) : Int) = (d 1 : Int) * 4294967296 + d 0 := by show ((d 1 * 4294967296 + d 0 : Nat) : Int) = _; omega
  have e1 : ((widR d 1 : Nat) : Int) = (d 3 : Int) * 4294967296 + d 2 := by show ((d 3 * 4294967296 + d 2 : Nat) : Int) = _; omega
  have e2 : ((widR d 2 : Nat) : Int) = (d 5 : Int) * 4294967296 + d 4 := by show ((d 5 * 4294967296 + d 4 : Nat) : Int) = _; omega
  have e3 : ((widR d 3 : Nat) : Int) = (d 7 : Int) * 4294967296 + d 6 := by show ((d 7 * 4294967296 + d 6 : Nat) : Int) = _; omega
  rw [e0, e1, e2, e3]
  clear e0 e1 e2 e3
  go_enter Try.func49, Try.ntmps49
  go_wp2
  refine bodyPost_ret (v := .agg #[.int .u64 ((d 1 : Int) * 4294967296 + d 0), .int .u64 ((d 3 : Int) * 4294967296 + d 2), .int .u64 ((d 5 : Int) * 4294967296 + d 4), .int .u64 ((d 7 : Int) * 4294967296 + d 6)]) (by simp [results, Try.results49, go_sem]) rfl ⟨rfl, ?_⟩
  exact ((Below.refl _ w).alloc (Nat.le_refl _) _).alloc (by simp) _

theorem At8.new (W : World) (r : Nat → Nat) : At8 (W.alloc (.cells #[.int .u64 (r 0), .int .u64 (r 1), .int .u64 (r 2), .int .u64 (r 3), .int .u64 (r 4), .int .u64 (r 5), .int .u64 (r 6), .int .u64 (r 7)] 54)) W.heap.size r := World.alloc_heap_new W _
/-- Below, behind eight stores into a block of one's own. -/
theorem below8 {W w : World} {n B : Nat} (h : Below n w W) (hn : n ≤ B) (v0 v1 v2 v3 v4 v5 v6 v7 : Value) :
    Below n w ((((((((W.setCell ⟨B, 0, none⟩ v0).setCell ⟨B, 1, none⟩ v1).setCell ⟨B, 2, none⟩ v2).setCell ⟨B, 3, none⟩ v3).setCell ⟨B, 4, none⟩ v4).setCell ⟨B, 5, none⟩ v5).setCell ⟨B, 6, none⟩ v6).setCell ⟨B, 7, none⟩ v7) :=
  (((((((h.setCell (p := ⟨B, 0, none⟩) hn _).setCell (p := ⟨B, 1, none⟩) hn _).setCell (p := ⟨B, 2, none⟩) hn _).setCell (p := ⟨B, 3, none⟩) hn _).setCell (p := ⟨B, 4, none⟩) hn _).setCell (p := ⟨B, 5, none⟩) hn _).setCell (p := ⟨B, 6, none⟩) hn _).setCell (p := ⟨B, 7, none⟩) hn _

def notSt (d : Nat → Nat) (k : Nat) : Nat → Nat := fun i => if i < k then 4294967295 - d i else d i
def notR (d : Nat → Nat) : Nat → Nat := notSt d 8
theorem notSt_succ (d : Nat → Nat) (k : Nat) : upd (notSt d k) k (4294967295 - d k) = notSt d (k + 1) := by
  funext i
  unfold upd notSt
  by_cases h : i = k
  · subst h; simp
  · by_cases h2 : i < k
    · rw [if_neg h, if_pos h2, if_pos (by omega)]
    · rw [if_neg h, if_neg h2, if_neg (by omega)]

set_option maxRecDepth 100000 in
theorem not_r (d : Nat → Nat) (hd : Digs d) (w : World) : Calls Try.prog 54 #[.agg #[.int .u64 (d 0), .int .u64 (d 1), .int .u64 (d 2), .int .u64 (d 3), .int .u64 (d 4), .int .u64 (d 5), .int .u64 (d 6), .int .u64 (d 7)]] w fun e w' => e = .returned (.agg #[.int .u64 (notR d 0), .int .u64 (notR d 1), .int .u64 (notR d 2), .int .u64 (notR d 3), .int .u64 (notR d 4), .int .u64 (notR d 5), .int .u64 (notR d 6), .int .u64 (notR d 7)]) ∧ Below w.heap.size w w' := by
  have hA := (At8.new w d).alloc (.cells #[.int .u64 0, .int .u64 0, .int .u64 0, .int .u64 0, .int .u64 0, .int .u64 0, .int .u64 0, .int .u64 0] 54)
  have hZ : At8 ((w.alloc (.cells #[.int .u64 (d 0), .int .u64 (d 1), .int .u64 (d 2), .int .u64 (d 3), .int .u64 (d 4), .int .u64 (d 5), .int .u64 (d 6), .int .u64 (d 7)] 54)).alloc (.cells #[.int .u64 0, .int .u64 0, .int .u64 0, .int .u64 0, .int .u64 0, .int .u64 0, .int .u64 0, .int .u64 0] 54)) (w.heap.size + 1) Zr := by
    have h := At8.new (w.alloc (.cells #[.int .u64 (d 0), .int .u64 (d 1), .int .u64 (d 2), .int .u64 (d 3), .int .u64 (d 4), .int .u64 (d 5), .int .u64 (d 6), .int .u64 (d 7)] 54)) Zr
    rw [World.size_alloc] at h
    exact h
  have hB : Below w.heap.size w ((w.alloc (.cells #[.int .u64 (d 0), .int .u64 (d 1), .int .u64 (d 2), .int .u64 (d 3), .int .u64 (d 4), .int .u64 (d 5), .int .u64 (d 6), .int .u64 (d 7)] 54)).alloc (.cells #[.int .u64 0, .int .u64 0, .int .u64 0, .int .u64 0, .int .u64 0, .int .u64 0, .int .u64 0, .int .u64 0] 54)) := ((Below.refl _ w).alloc (Nat.le_refl _) _).alloc (by simp) _
  go_enter Try.func54, Try.ntmps54
  go_wp2
  obtain ⟨V, hV⟩ : ∃ V, (w.alloc (.cells #[.int .u64 (d 0), .int .u64 (d 1), .int .u64 (d 2), .int .u64 (d 3), .int .u64 (d 4), .int .u64 (d 5), .int .u64 (d 6), .int .u64 (d 7)] 54)).alloc (.cells #[.int .u64 0, .int .u64 0, .int .u64 0, .int .u64 0, .int .u64 0, .int .u64 0, .int .u64 0, .int .u64 0] 54) = V := ⟨_, rfl⟩
  rw [hV] at hA hZ hB ⊢
  clear hV
  obtain ⟨N, hN⟩ : ∃ N, w.heap.size = N := ⟨_, rfl⟩
  rw [hN] at hA hZ hB ⊢
  go_loopw [3] (fun v3 wr => ∃ k : Nat, k ≤ 8 ∧ v3 = .int .i64 k ∧ At8 wr N (notSt d k) ∧ At8 wr (N + 1) Zr ∧ Below N w wr) (fun v3 _ => 8 - (intOf v3).toNat)
  case atStart => exact ⟨0, by omega, rfl, hA, hZ, hB⟩
  case round =>
    clear hA hZ hB
    obtain ⟨k, hk, rfl, hA, hZ, hB⟩ := hrel
    by_cases hlt : k < 8
    · have hki : (k : Int) < 8 := by omega
      have c := hA.cell k hlt
      have f := hA.frozen k
      have e : notSt d k k = d k := by simp [notSt]
      have hs := hA.set k (4294967295 - d k) hlt
      rw [notSt_succ] at hs
      rw [e] at c
      have hdk := hd k
      obtain ⟨x, hx⟩ : ∃ x, d k = x := ⟨_, rfl⟩
      rw [hx] at c hs hdk
      have E : Hid ((4294967295 : Int) - (x : Int) = ((4294967295 - x : Nat) : Int)) := Lib.hid (by omega)
      clear e hx
      go_wp2
      go_roundw
      case rel => exact ⟨k + 1, by omega, by go_num, by rw [E.out]; exact hs, hZ.other (by omega) _ _, hB.setCell (p := ⟨N, k, none⟩) (Nat.le_refl _) _⟩
      case measure => simp [intOf]; omega
    · obtain rfl : k = 8 := by omega
      change At8 wr N (notR d) at hA
      have c0 := hA.cell 0 (by omega)
      have c1 := hA.cell 1 (by omega)
      have c2 := hA.cell 2 (by omega)
      have c3 := hA.cell 3 (by omega)
      have c4 := hA.cell 4 (by omega)
      have c5 := hA.cell 5 (by omega)
      have c6 := hA.cell 6 (by omega)
      have c7 := hA.cell 7 (by omega)
      have z0 := hZ.cell 0 (by omega)
      have z1 := hZ.cell 1 (by omega)
      have z2 := hZ.cell 2 (by omega)
      have z3 := hZ.cell 3 (by omega)
      have z4 := hZ.cell 4 (by omega)
      have z5 := hZ.cell 5 (by omega)
      have z6 := hZ.cell 6 (by omega)
      have z7 := hZ.cell 7 (by omega)
      have zf0 := hZ.frozen 0
      have zf1 := hZ.frozen 1
      have zf2 := hZ.frozen 2
      have zf3 := hZ.frozen 3
      have zf4 := hZ.frozen 4
      have zf5 := hZ.frozen 5
      have zf6 := hZ.frozen 6
      have zf7 := hZ.frozen 7
      go_wp2
      refine bodyPost_ret (v := .agg #[.int .u64 (notR d 0), .int .u64 (notR d 1), .int .u64 (notR d 2), .int .u64 (notR d 3), .int .u64 (notR d 4), .int .u64 (notR d 5), .int .u64 (notR d 6), .int .u64 (notR d 7)]) (by simp [results, Try.results54, go_sem, z0, z1, z2, z3, z4, z5, z6, z7]) rfl ⟨rfl, ?_⟩
      rw [hN]
      exact below8 hB (by omega) _ _ _ _ _ _ _ _

end Go.Proofs.Ytecgclkjglkkbaa
