/- The contract of the document's own function times, for every two rows of eight digits. -/
import Derived.Test.YtecgclkjglkkbaaP4
namespace Go.Proofs.Ytecgclkjglkkbaa
open Go Go.RowKit Go.Shelf
set_option linter.unusedSimpArgs false
set_option linter.unusedVariables false

/-- Block B holds sixteen words. -/
def At16 (W : World) (B : Nat) (r : Nat → Nat) : Prop := W.heap[B]? = some (.cells #[.int .u64 (r 0), .int .u64 (r 1), .int .u64 (r 2), .int .u64 (r 3), .int .u64 (r 4), .int .u64 (r 5), .int .u64 (r 6), .int .u64 (r 7), .int .u64 (r 8), .int .u64 (r 9), .int .u64 (r 10), .int .u64 (r 11), .int .u64 (r 12), .int .u64 (r 13), .int .u64 (r 14), .int .u64 (r 15)] 61 (0, 0))

theorem At16.lt {W : World} {B : Nat} {r : Nat → Nat} (h : At16 W B r) : B < W.heap.size := (Array.getElem?_eq_some_iff.1 h).1
theorem At16.cell {W : World} {B : Nat} {r : Nat → Nat} (h : At16 W B r) (i : Nat) (hi : i < 16) : W.cell? ⟨B, i, none⟩ = some (.int .u64 (r i)) := by
  have : i = 0 ∨ i = 1 ∨ i = 2 ∨ i = 3 ∨ i = 4 ∨ i = 5 ∨ i = 6 ∨ i = 7 ∨ i = 8 ∨ i = 9 ∨ i = 10 ∨ i = 11 ∨ i = 12 ∨ i = 13 ∨ i = 14 ∨ i = 15 := by omega
  rcases this with rfl | rfl | rfl | rfl | rfl | rfl | rfl | rfl | rfl | rfl | rfl | rfl | rfl | rfl | rfl | rfl <;> simp [World.cell?, show W.heap[B]? = _ from h]
theorem At16.frozen {W : World} {B : Nat} {r : Nat → Nat} (h : At16 W B r) (i : Nat) : W.frozen? ⟨B, i, none⟩ = false := by simp [World.frozen?, show W.heap[B]? = _ from h]
theorem At16.kept {W W' : World} {row : Option Nat} {B : Nat} {r : Nat → Nat} (h : At16 W B r) (hg : W.grownBy W' row) (hne : some B ≠ row) : At16 W' B r := (hg.block B h.lt hne).trans h
theorem At16.alloc {W : World} {B : Nat} {r : Nat → Nat} (h : At16 W B r) (o : Obj) : At16 (W.alloc o) B r := h.kept (World.grownBy_alloc W o none) (by simp)
theorem At16.below {W W' : World} {B : Nat} {r : Nat → Nat} (h : At16 W B r) (hB : Below W.heap.size W W') : At16 W' B r := (hB.block B h.lt).trans h
theorem At16.set {W : World} {B : Nat} {r : Nat → Nat} (h : At16 W B r) (i v : Nat) (hi : i < 16) : At16 (W.setCell ⟨B, i, none⟩ (.int .u64 v)) B (upd r i v) := by
  obtain ⟨hlt, hk⟩ := Array.getElem?_eq_some_iff.1 h
  show (W.heap.modify B _)[B]? = _
  rw [Array.getElem?_eq_getElem (by rw [Array.size_modify]; exact hlt), Array.getElem_modify_self, hk]
  have : i = 0 ∨ i = 1 ∨ i = 2 ∨ i = 3 ∨ i = 4 ∨ i = 5 ∨ i = 6 ∨ i = 7 ∨ i = 8 ∨ i = 9 ∨ i = 10 ∨ i = 11 ∨ i = 12 ∨ i = 13 ∨ i = 14 ∨ i = 15 := by omega
  rcases this with rfl | rfl | rfl | rfl | rfl | rfl | rfl | rfl | rfl | rfl | rfl | rfl | rfl | rfl | rfl | rfl <;> simp [upd]
theorem At16.other {W : World} {B B' : Nat} {r : Nat → Nat} (h : At16 W B r) (hne : B ≠ B') (i : Nat) (u : Value) : At16 (W.setCell ⟨B', i, none⟩ u) B r :=
  h.kept (grownBy_setCellAt W B' i u) (fun e => hne (by cases e; rfl))
theorem At16.new (W : World) (r : Nat → Nat) : At16 (W.alloc (.cells #[.int .u64 (r 0), .int .u64 (r 1), .int .u64 (r 2), .int .u64 (r 3), .int .u64 (r 4), .int .u64 (r 5), .int .u64 (r 6), .int .u64 (r 7), .int .u64 (r 8), .int .u64 (r 9), .int .u64 (r 10), .int .u64 (r 11), .int .u64 (r 12), .int .u64 (r 13), .int .u64 (r 14), .int .u64 (r 15)] 61)) W.heap.size r := World.alloc_heap_new W _
theorem At16.drewN {W : World} {B : Nat} {r : Nat → Nat} (h : At16 W B r) (n : Nat) : At16 (W.drewN n) B r := h

def tStep (a b : Nat → Nat) (i : Nat) (s : (Nat → Nat) × Nat) (k : Nat) : (Nat → Nat) × Nat := (upd s.1 (i + k) ((s.1 (i + k) + a i * b k + s.2) % 4294967296), (s.1 (i + k) + a i * b k + s.2) / 4294967296)
def tIn (a b : Nat → Nat) (i : Nat) (o : Nat → Nat) : Nat → (Nat → Nat) × Nat
  | 0 => (o, 0)
  | k + 1 => tStep a b i (tIn a b i o k) k
def tRow (a b : Nat → Nat) (i : Nat) (o : Nat → Nat) : Nat → Nat := if a i = 0 then o else upd (tIn a b i o 8).1 (i + 8) (tIn a b i o 8).2
def tOut (a b : Nat → Nat) : Nat → Nat → Nat
  | 0 => fun _ => 0
  | i + 1 => tRow a b i (tOut a b i)
def timesR (a b : Nat → Nat) : Nat → Nat := tOut a b 8

theorem prod_le {x y : Nat} (hx : x < 4294967296) (hy : y < 4294967296) : x * y ≤ 18446744065119617025 := Nat.mul_le_mul (Nat.le_of_lt_succ hx) (Nat.le_of_lt_succ hy)
theorem tIn_fine {a b o : Nat → Nat} {i : Nat} (ha : Digs a) (hb : Digs b) (ho : Digs o) : ∀ k, Digs (tIn a b i o k).1 ∧ (tIn a b i o k).2 < 4294967296 := by
  intro k
  induction k with
  | zero => exact ⟨ho, by simp [tIn]⟩
  | succ k ih =>
    obtain ⟨h1, h2⟩ := ih
    have p := prod_le (ha i) (hb k)
    have q := h1 (i + k)
    refine ⟨fun j => ?_, ?_⟩
    · show upd _ (i + k) _ j < _
      unfold upd
      split
      · omega
      · exact h1 j
    · show (_ + _ + _) / _ < _
      generalize a i * b k = z at *
      omega
theorem tOut_digs {a b : Nat → Nat} (ha : Digs a) (hb : Digs b) : ∀ i, Digs (tOut a b i) := by
  intro i
  induction i with
  | zero => exact fun _ => by simp [tOut]
  | succ i ih =>
    show Digs (tRow a b i (tOut a b i))
    unfold tRow
    split
    · exact ih
    · obtain ⟨h1, h2⟩ := tIn_fine (i := i) ha hb ih 8
      intro j
      unfold upd
      split
      · exact h2
      · exact h1 j

theorem tIn_ge (a b o : Nat → Nat) (i : Nat) : ∀ k j, i + k ≤ j → (tIn a b i o k).1 j = o j := by
  intro k
  induction k with
  | zero => exact fun _ _ => rfl
  | succ k ih =>
    intro j hj
    show upd _ (i + k) _ j = _
    unfold upd
    rw [if_neg (by omega)]
    exact ih j (by omega)
theorem tIn_val (a b o : Nat → Nat) (i : Nat) : ∀ k, nm 4294967296 (tIn a b i o k).1 (i + k) + (tIn a b i o k).2 * 4294967296 ^ (i + k) = nm 4294967296 o (i + k) + a i * 4294967296 ^ i * nm 4294967296 b k := by
  intro k
  induction k with
  | zero => simp [tIn, nm]
  | succ k ih =>
    have h := tIn_ge a b o i k (i + k) (Nat.le_refl _)
    show nm _ (upd (tIn a b i o k).1 (i + k) (((tIn a b i o k).1 (i + k) + a i * b k + (tIn a b i o k).2) % 4294967296)) (i + k + 1) + ((tIn a b i o k).1 (i + k) + a i * b k + (tIn a b i o k).2) / 4294967296 * 4294967296 ^ (i + k + 1) = nm 4294967296 o (i + k + 1) + _
    rw [nm, nm_upd_ge _ _ (Nat.le_refl _), nm, nm]
    rw [show upd (tIn a b i o k).1 (i + k) (((tIn a b i o k).1 (i + k) + a i * b k + (tIn a b i o k).2) % 4294967296) (i + k) = ((tIn a b i o k).1 (i + k) + a i * b k + (tIn a b i o k).2) % 4294967296 by simp [upd], h]
    generalize (tIn a b i o k).2 = c2 at *
    generalize nm 4294967296 (tIn a b i o k).1 (i + k) = X at *
    have e : (o (i + k) + a i * b k + c2) % 4294967296 * 4294967296 ^ (i + k) + (o (i + k) + a i * b k + c2) / 4294967296 * 4294967296 ^ (i + k + 1) = (o (i + k) + a i * b k + c2) * 4294967296 ^ (i + k) := by
      rw [Nat.pow_succ, Nat.mul_comm (4294967296 ^ (i + k)) 4294967296, ← Nat.mul_assoc, ← Nat.add_mul]
      congr 1
      omega
    have e2 : (o (i + k) + a i * b k + c2) * 4294967296 ^ (i + k) = o (i + k) * 4294967296 ^ (i + k) + a i * b k * 4294967296 ^ (i + k) + c2 * 4294967296 ^ (i + k) := by rw [Nat.add_mul, Nat.add_mul]
    have e3 : a i * 4294967296 ^ i * (nm 4294967296 b k + b k * 4294967296 ^ k) = a i * 4294967296 ^ i * nm 4294967296 b k + a i * b k * 4294967296 ^ (i + k) := by
      rw [Nat.mul_add, Nat.pow_add]
      congr 1
      simp only [Nat.mul_assoc, Nat.mul_left_comm]
    omega
theorem tRow_val {a b o : Nat → Nat} {i A C : Nat} (h1 : nm 4294967296 o (i + 8) = C) (h2 : ∀ j, i + 8 ≤ j → o j = 0) (hA : A = a i * 4294967296 ^ i * nm 4294967296 b 8) :
    nm 4294967296 (tRow a b i o) (i + 8 + 1) = C + A ∧ ∀ j, i + 8 + 1 ≤ j → tRow a b i o j = 0 := by
  have h3 := tIn_val a b o i 8
  have h4 := tIn_ge a b o i 8
  unfold tRow
  generalize tIn a b i o 8 = r at *
  split
  · rename_i h0
    refine ⟨?_, fun j hj => h2 j (by omega)⟩
    rw [nm, h1, h2 (i + 8) (Nat.le_refl _), hA, h0]
    simp
  · refine ⟨?_, fun j hj => ?_⟩
    · rw [nm, nm_upd_ge _ _ (Nat.le_refl _), show upd r.1 (i + 8) r.2 (i + 8) = r.2 by simp [upd], h3, h1, hA]
    · unfold upd
      rw [if_neg (by omega), h4 j (by omega), h2 j (by omega)]
theorem tOut_val (a b : Nat → Nat) : ∀ i, nm 4294967296 (tOut a b i) (i + 8) = nm 4294967296 a i * nm 4294967296 b 8 ∧ ∀ j, i + 8 ≤ j → tOut a b i j = 0 := by
  intro i
  induction i with
  | zero => exact ⟨(nm_zero _).trans (Nat.zero_mul _).symm, fun _ _ => rfl⟩
  | succ i ih =>
    have h := tRow_val (a := a) (b := b) ih.1 ih.2 rfl
    have e : nm 4294967296 a (i + 1) * nm 4294967296 b 8 = nm 4294967296 a i * nm 4294967296 b 8 + a i * 4294967296 ^ i * nm 4294967296 b 8 := by rw [nm, Nat.add_mul]
    rw [e, show i + 1 + 8 = i + 8 + 1 by omega]
    exact h
theorem timesR_val (a b : Nat → Nat) : nm 4294967296 (timesR a b) 16 = dval a * dval b := (tOut_val a b 8).1
theorem timesR_digs {a b : Nat → Nat} (ha : Digs a) (hb : Digs b) : Digs (timesR a b) := tOut_digs ha hb 8

end Go.Proofs.Ytecgclkjglkkbaa
