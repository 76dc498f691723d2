/- Texts of the seat, joined. -/
import Derived.Test.YtpllklojcjhjaaaZz8
import Derived.Deep.QuietTactic
import Derived.BigQuiet
/- The document's own product of digits. -/
namespace Go.Proofs.Ytpllklojcjhjaaa
open Go Go.RowKit Go.Shelf
set_option linter.unusedSimpArgs false
set_option linter.unusedVariables false

attribute [local go_sem] Oper.semAt_some

def upd (r : Nat → Nat) (i v : Nat) : Nat → Nat := fun j => if j = i then v else r j
def At8 (W : World) (B : Nat) (r : Nat → Nat) : Prop := W.heap[B]? = some (.cells #[.int .u64 (r 0), .int .u64 (r 1), .int .u64 (r 2), .int .u64 (r 3), .int .u64 (r 4), .int .u64 (r 5), .int .u64 (r 6), .int .u64 (r 7)] 75 (0, 0))

theorem grownBy_setCellAt (W : World) (b i : Nat) (v : Value) : W.grownBy (W.setCell ⟨b, i, none⟩ v) (some b) :=
  ⟨rfl, rfl, rfl, (KeepsWalks.setCell W _ v).size, fun k _ hk => Below.heap_setCell _ _ _ k (fun e => hk (by rw [e]))⟩
theorem At8.lt {W : World} {B : Nat} {r : Nat → Nat} (h : At8 W B r) : B < W.heap.size := (Array.getElem?_eq_some_iff.1 h).1
theorem At8.cell {W : World} {B : Nat} {r : Nat → Nat} (h : At8 W B r) (i : Nat) (hi : i < 8) : W.cell? ⟨B, i, none⟩ = some (.int .u64 (r i)) := by
  have : i = 0 ∨ i = 1 ∨ i = 2 ∨ i = 3 ∨ i = 4 ∨ i = 5 ∨ i = 6 ∨ i = 7 := by omega
  rcases this with rfl | rfl | rfl | rfl | rfl | rfl | rfl | rfl <;> simp [World.cell?, show W.heap[B]? = _ from h]
theorem At8.frozen {W : World} {B : Nat} {r : Nat → Nat} (h : At8 W B r) (i : Nat) : W.frozen? ⟨B, i, none⟩ = false := by simp [World.frozen?, show W.heap[B]? = _ from h]
theorem At8.kept {W W' : World} {row : Option Nat} {B : Nat} {r : Nat → Nat} (h : At8 W B r) (hg : W.grownBy W' row) (hne : some B ≠ row) : At8 W' B r := (hg.block B h.lt hne).trans h
theorem At8.alloc {W : World} {B : Nat} {r : Nat → Nat} (h : At8 W B r) (o : Obj) : At8 (W.alloc o) B r := h.kept (World.grownBy_alloc W o none) (by simp)
theorem At8.below {W W' : World} {B : Nat} {r : Nat → Nat} (h : At8 W B r) (hB : Below W.heap.size W W') : At8 W' B r := (hB.block B h.lt).trans h
theorem At8.set {W : World} {B : Nat} {r : Nat → Nat} (h : At8 W B r) (i v : Nat) (hi : i < 8) : At8 (W.setCell ⟨B, i, none⟩ (.int .u64 v)) B (upd r i v) := by
  obtain ⟨hlt, hk⟩ := Array.getElem?_eq_some_iff.1 h
  show (W.heap.modify B _)[B]? = _
  rw [Array.getElem?_eq_getElem (by rw [Array.size_modify]; exact hlt), Array.getElem_modify_self, hk]
  have : i = 0 ∨ i = 1 ∨ i = 2 ∨ i = 3 ∨ i = 4 ∨ i = 5 ∨ i = 6 ∨ i = 7 := by omega
  rcases this with rfl | rfl | rfl | rfl | rfl | rfl | rfl | rfl <;> simp [upd]
theorem At8.own {β : Type} (B : Nat) (f : β → Nat → Nat) : Own (fun s W => At8 W B (f s)) := fun s X Y row hs hg hr =>
  hs.kept hg (fun e' => by obtain ⟨o, ho, hc⟩ := hr B e'.symm; rw [show X.heap[B]? = _ from hs] at ho; cases ho; cases hc)
theorem At8.other {W : World} {B B' : Nat} {r : Nat → Nat} (h : At8 W B r) (hne : B ≠ B') (i : Nat) (u : Value) : At8 (W.setCell ⟨B', i, none⟩ u) B r :=
  h.kept (grownBy_setCellAt W B' i u) (fun e => hne (by cases e; rfl))
def Zr : Nat → Nat := fun _ => 0
def Digs (d : Nat → Nat) : Prop := ∀ i, d i < 4294967296
theorem At8.new (W : World) (r : Nat → Nat) : At8 (W.alloc (.cells #[.int .u64 (r 0), .int .u64 (r 1), .int .u64 (r 2), .int .u64 (r 3), .int .u64 (r 4), .int .u64 (r 5), .int .u64 (r 6), .int .u64 (r 7)] 75)) W.heap.size r := World.alloc_heap_new W _
theorem At8.drewN {W : World} {B : Nat} {r : Nat → Nat} (h : At8 W B r) (n : Nat) : At8 (W.drewN n) B r := h
theorem below_drewN {n : Nat} {w W : World} (h : Below n w W) (k : Nat) : Below n w (W.drewN k) := ⟨h.os, h.tape, h.output, h.size, h.block⟩
/-- The number of the lowest k digits by B. -/
def nm (B : Nat) (d : Nat → Nat) : Nat → Nat
  | 0 => 0
  | k + 1 => nm B d k + d k * B ^ k

theorem nm_congr {B : Nat} {d e : Nat → Nat} : ∀ k, (∀ i, i < k → d i = e i) → nm B d k = nm B e k := by
  intro k
  induction k with
  | zero => exact fun _ => rfl
  | succ k ih => intro h; rw [nm, nm, ih (fun i hi => h i (by omega)), h k (by omega)]
theorem nm_upd_ge {B : Nat} (d : Nat → Nat) {k i : Nat} (v : Nat) (h : k ≤ i) : nm B (upd d i v) k = nm B d k :=
  nm_congr k (fun j hj => by unfold upd; rw [if_neg (by omega)])
theorem nm_lt {B : Nat} {d : Nat → Nat} (k : Nat) (h : ∀ i, i < k → d i < B) : nm B d k < B ^ k := by
  induction k with
  | zero => simp [nm]
  | succ k ih =>
    have h1 := ih (fun i hi => h i (by omega))
    have h2 := h k (by omega)
    rw [nm, Nat.pow_succ]
    have h3 : (d k + 1) * B ^ k ≤ B * B ^ k := Nat.mul_le_mul_right _ h2
    rw [Nat.add_mul, Nat.one_mul] at h3
    rw [Nat.mul_comm (B ^ k) B]
    omega
theorem nm_zero {B : Nat} (k : Nat) : nm B (fun _ => 0) k = 0 := by
  induction k with
  | zero => rfl
  | succ k ih => rw [nm, ih]; simp

/-- The number of eight digits. -/
def dval (d : Nat → Nat) : Nat := nm 4294967296 d 8
theorem zr_digs : Digs Zr := fun _ => by simp [Zr]
/-- Block B holds sixteen words. -/
def At16 (W : World) (B : Nat) (r : Nat → Nat) : Prop := W.heap[B]? = some (.cells #[.int .u64 (r 0), .int .u64 (r 1), .int .u64 (r 2), .int .u64 (r 3), .int .u64 (r 4), .int .u64 (r 5), .int .u64 (r 6), .int .u64 (r 7), .int .u64 (r 8), .int .u64 (r 9), .int .u64 (r 10), .int .u64 (r 11), .int .u64 (r 12), .int .u64 (r 13), .int .u64 (r 14), .int .u64 (r 15)] 73 (0, 0))

theorem At16.lt {W : World} {B : Nat} {r : Nat → Nat} (h : At16 W B r) : B < W.heap.size := (Array.getElem?_eq_some_iff.1 h).1
theorem At16.cell {W : World} {B : Nat} {r : Nat → Nat} (h : At16 W B r) (i : Nat) (hi : i < 16) : W.cell? ⟨B, i, none⟩ = some (.int .u64 (r i)) := by
  have : i = 0 ∨ i = 1 ∨ i = 2 ∨ i = 3 ∨ i = 4 ∨ i = 5 ∨ i = 6 ∨ i = 7 ∨ i = 8 ∨ i = 9 ∨ i = 10 ∨ i = 11 ∨ i = 12 ∨ i = 13 ∨ i = 14 ∨ i = 15 := by omega
  rcases this with rfl | rfl | rfl | rfl | rfl | rfl | rfl | rfl | rfl | rfl | rfl | rfl | rfl | rfl | rfl | rfl <;> simp [World.cell?, show W.heap[B]? = _ from h]
theorem At16.frozen {W : World} {B : Nat} {r : Nat → Nat} (h : At16 W B r) (i : Nat) : W.frozen? ⟨B, i, none⟩ = false := by simp [World.frozen?, show W.heap[B]? = _ from h]
theorem At16.kept {W W' : World} {row : Option Nat} {B : Nat} {r : Nat → Nat} (h : At16 W B r) (hg : W.grownBy W' row) (hne : some B ≠ row) : At16 W' B r := (hg.block B h.lt hne).trans h
theorem At16.alloc {W : World} {B : Nat} {r : Nat → Nat} (h : At16 W B r) (o : Obj) : At16 (W.alloc o) B r := h.kept (World.grownBy_alloc W o none) (by simp)
theorem At16.below {W W' : World} {B : Nat} {r : Nat → Nat} (h : At16 W B r) (hB : Below W.heap.size W W') : At16 W' B r := (hB.block B h.lt).trans h
theorem At16.set {W : World} {B : Nat} {r : Nat → Nat} (h : At16 W B r) (i v : Nat) (hi : i < 16) : At16 (W.setCell ⟨B, i, none⟩ (.int .u64 v)) B (upd r i v) := by
  obtain ⟨hlt, hk⟩ := Array.getElem?_eq_some_iff.1 h
  show (W.heap.modify B _)[B]? = _
  rw [Array.getElem?_eq_getElem (by rw [Array.size_modify]; exact hlt), Array.getElem_modify_self, hk]
  have : i = 0 ∨ i = 1 ∨ i = 2 ∨ i = 3 ∨ i = 4 ∨ i = 5 ∨ i = 6 ∨ i = 7 ∨ i = 8 ∨ i = 9 ∨ i = 10 ∨ i = 11 ∨ i = 12 ∨ i = 13 ∨ i = 14 ∨ i = 15 := by omega
  rcases this with rfl | rfl | rfl | rfl | rfl | rfl | rfl | rfl | rfl | rfl | rfl | rfl | rfl | rfl | rfl | rfl <;> simp [upd]
theorem At16.other {W : World} {B B' : Nat} {r : Nat → Nat} (h : At16 W B r) (hne : B ≠ B') (i : Nat) (u : Value) : At16 (W.setCell ⟨B', i, none⟩ u) B r :=
  h.kept (grownBy_setCellAt W B' i u) (fun e => hne (by cases e; rfl))
theorem At16.new (W : World) (r : Nat → Nat) : At16 (W.alloc (.cells #[.int .u64 (r 0), .int .u64 (r 1), .int .u64 (r 2), .int .u64 (r 3), .int .u64 (r 4), .int .u64 (r 5), .int .u64 (r 6), .int .u64 (r 7), .int .u64 (r 8), .int .u64 (r 9), .int .u64 (r 10), .int .u64 (r 11), .int .u64 (r 12), .int .u64 (r 13), .int .u64 (r 14), .int .u64 (r 15)] 73)) W.heap.size r := World.alloc_heap_new W _
theorem At16.drewN {W : World} {B : Nat} {r : Nat → Nat} (h : At16 W B r) (n : Nat) : At16 (W.drewN n) B r := h

def tStep (a b : Nat → Nat) (i : Nat) (s : (Nat → Nat) × Nat) (k : Nat) : (Nat → Nat) × Nat := (upd s.1 (i + k) ((s.1 (i + k) + a i * b k + s.2) % 4294967296), (s.1 (i + k) + a i * b k + s.2) / 4294967296)
def tIn (a b : Nat → Nat) (i : Nat) (o : Nat → Nat) : Nat → (Nat → Nat) × Nat
  | 0 => (o, 0)
  | k + 1 => tStep a b i (tIn a b i o k) k
def tRow (a b : Nat → Nat) (i : Nat) (o : Nat → Nat) : Nat → Nat := if a i = 0 then o else upd (tIn a b i o 8).1 (i + 8) (tIn a b i o 8).2
def tOut (a b : Nat → Nat) : Nat → Nat → Nat
  | 0 => fun _ => 0
  | i + 1 => tRow a b i (tOut a b i)
def timesR (a b : Nat → Nat) : Nat → Nat := tOut a b 8

theorem prod_le {x y : Nat} (hx : x < 4294967296) (hy : y < 4294967296) : x * y ≤ 18446744065119617025 := Nat.mul_le_mul (Nat.le_of_lt_succ hx) (Nat.le_of_lt_succ hy)
theorem tIn_fine {a b o : Nat → Nat} {i : Nat} (ha : Digs a) (hb : Digs b) (ho : Digs o) : ∀ k, Digs (tIn a b i o k).1 ∧ (tIn a b i o k).2 < 4294967296 := by
  intro k
  induction k with
  | zero => exact ⟨ho, by simp [tIn]⟩
  | succ k ih =>
    obtain ⟨h1, h2⟩ := ih
    have p := prod_le (ha i) (hb k)
    have q := h1 (i + k)
    refine ⟨fun j => ?_, ?_⟩
    · show upd _ (i + k) _ j < _
      unfold upd
      split
      · omega
      · exact h1 j
    · show (_ + _ + _) / _ < _
      generalize a i * b k = z at *
      omega
theorem tOut_digs {a b : Nat → Nat} (ha : Digs a) (hb : Digs b) : ∀ i, Digs (tOut a b i) := by
  intro i
  induction i with
  | zero => exact fun _ => by simp [tOut]
  | succ i ih =>
    show Digs (tRow a b i (tOut a b i))
    unfold tRow
    split
    · exact ih
    · obtain ⟨h1, h2⟩ := tIn_fine (i := i) ha hb ih 8
      intro j
      unfold upd
      split
      · exact h2
      · exact h1 j

theorem tIn_ge (a b o : Nat → Nat) (i : Nat) : ∀ k j, i + k ≤ j → (tIn a b i o k).1 j = o j := by
  intro k
  induction k with
  | zero => exact fun _ _ => rfl
  | succ k ih =>
    intro j hj
    show upd _ (i + k) _ j = _
    unfold upd
    rw [if_neg (by omega)]
    exact ih j (by omega)
theorem tIn_val (a b o : Nat → Nat) (i : Nat) : ∀ k, nm 4294967296 (tIn a b i o k).1 (i + k) + (tIn a b i o k).2 * 4294967296 ^ (i + k) = nm 4294967296 o (i + k) + a i * 4294967296 ^ i * nm 4294967296 b k := by
  intro k
  induction k with
  | zero => simp [tIn, nm]
  | succ k ih =>
    have h := tIn_ge a b o i k (i + k) (Nat.le_refl _)
    show nm _ (upd (tIn a b i o k).1 (i + k) (((tIn a b i o k).1 (i + k) + a i * b k + (tIn a b i o k).2) % 4294967296)) (i + k + 1) + ((tIn a b i o k).1 (i + k) + a i * b k + (tIn a b i o k).2) / 4294967296 * 4294967296 ^ (i + k + 1) = nm 4294967296 o (i + k + 1) + _
    rw [nm, nm_upd_ge _ _ (Nat.le_refl _), nm, nm]
    rw [show upd (tIn a b i o k).1 (i + k) (((tIn a b i o k).1 (i + k) + a i * b k + (tIn a b i o k).2) % 4294967296) (i + k) = ((tIn a b i o k).1 (i + k) + a i * b k + (tIn a b i o k).2) % 4294967296 by simp [upd], h]
    generalize (tIn a b i o k).2 = c2 at *
    generalize nm 4294967296 (tIn a b i o k).1 (i + k) = X at *
    have e : (o (i + k) + a i * b k + c2) % 4294967296 * 4294967296 ^ (i + k) + (o (i + k) + a i * b k + c2) / 4294967296 * 4294967296 ^ (i + k + 1) = (o (i + k) + a i * b k + c2) * 4294967296 ^ (i + k) := by
      rw [Nat.pow_succ, Nat.mul_comm (4294967296 ^ (i + k)) 4294967296, ← Nat.mul_assoc, ← Nat.add_mul]
      congr 1
      omega
    have e2 : (o (i + k) + a i * b k + c2) * 4294967296 ^ (i + k) = o (i + k) * 4294967296 ^ (i + k) + a i * b k * 4294967296 ^ (i + k) + c2 * 4294967296 ^ (i + k) := by rw [Nat.add_mul, Nat.add_mul]
    have e3 : a i * 4294967296 ^ i * (nm 4294967296 b k + b k * 4294967296 ^ k) = a i * 4294967296 ^ i * nm 4294967296 b k + a i * b k * 4294967296 ^ (i + k) := by
      rw [Nat.mul_add, Nat.pow_add]
      congr 1
      simp only [Nat.mul_assoc, Nat.mul_left_comm]
    omega
theorem tRow_val {a b o : Nat → Nat} {i A C : Nat} (h1 : nm 4294967296 o (i + 8) = C) (h2 : ∀ j, i + 8 ≤ j → o j = 0) (hA : A = a i * 4294967296 ^ i * nm 4294967296 b 8) :
    nm 4294967296 (tRow a b i o) (i + 8 + 1) = C + A ∧ ∀ j, i + 8 + 1 ≤ j → tRow a b i o j = 0 := by
  have h3 := tIn_val a b o i 8
  have h4 := tIn_ge a b o i 8
  unfold tRow
  generalize tIn a b i o 8 = r at *
  split
  · rename_i h0
    refine ⟨?_, fun j hj => h2 j (by omega)⟩
    rw [nm, h1, h2 (i + 8) (Nat.le_refl _), hA, h0]
    simp
  · refine ⟨?_, fun j hj => ?_⟩
    · rw [nm, nm_upd_ge _ _ (Nat.le_refl _), show upd r.1 (i + 8) r.2 (i + 8) = r.2 by simp [upd], h3, h1, hA]
    · unfold upd
      rw [if_neg (by omega), h4 j (by omega), h2 j (by omega)]
theorem tOut_val (a b : Nat → Nat) : ∀ i, nm 4294967296 (tOut a b i) (i + 8) = nm 4294967296 a i * nm 4294967296 b 8 ∧ ∀ j, i + 8 ≤ j → tOut a b i j = 0 := by
  intro i
  induction i with
  | zero => exact ⟨(nm_zero _).trans (Nat.zero_mul _).symm, fun _ _ => rfl⟩
  | succ i ih =>
    have h := tRow_val (a := a) (b := b) ih.1 ih.2 rfl
    have e : nm 4294967296 a (i + 1) * nm 4294967296 b 8 = nm 4294967296 a i * nm 4294967296 b 8 + a i * 4294967296 ^ i * nm 4294967296 b 8 := by rw [nm, Nat.add_mul]
    rw [e, show i + 1 + 8 = i + 8 + 1 by omega]
    exact h
theorem timesR_val (a b : Nat → Nat) : nm 4294967296 (timesR a b) 16 = dval a * dval b := (tOut_val a b 8).1
theorem timesR_digs {a b : Nat → Nat} (ha : Digs a) (hb : Digs b) : Digs (timesR a b) := tOut_digs ha hb 8

/-- The blocks of times. -/
def Tb (N : Nat) (w : World) (a b o : Nat → Nat) (W : World) : Prop := At8 W N a ∧ At8 W (N + 1) b ∧ At16 W (N + 1 + 1) Zr ∧ At16 W (N + 1 + 1 + 1) o ∧ Below N w W
theorem tb_drewN {N : Nat} {w W : World} {a b o : Nat → Nat} (h : Tb N w a b o W) (n : Nat) : Tb N w a b o (W.drewN n) := ⟨h.1, h.2.1, h.2.2.1, h.2.2.2.1, below_drewN h.2.2.2.2 n⟩
theorem tb_set {N : Nat} {w W : World} {a b o : Nat → Nat} (h : Tb N w a b o W) (i v : Nat) (hi : i < 16) : Tb N w a b (upd o i v) (W.setCell ⟨N + 1 + 1 + 1, i, none⟩ (.int .u64 v)) :=
  ⟨h.1.other (by omega) _ _, h.2.1.other (by omega) _ _, h.2.2.1.other (by omega) _ _, h.2.2.2.1.set i v hi, h.2.2.2.2.setCell (p := ⟨N + 1 + 1 + 1, i, none⟩) (by show N ≤ N + 1 + 1 + 1; omega) _⟩
theorem tb_new (a b : Nat → Nat) (w : World) : Tb w.heap.size w a b Zr ((((w.alloc (.cells #[.int .u64 (a 0), .int .u64 (a 1), .int .u64 (a 2), .int .u64 (a 3), .int .u64 (a 4), .int .u64 (a 5), .int .u64 (a 6), .int .u64 (a 7)] 75)).alloc (.cells #[.int .u64 (b 0), .int .u64 (b 1), .int .u64 (b 2), .int .u64 (b 3), .int .u64 (b 4), .int .u64 (b 5), .int .u64 (b 6), .int .u64 (b 7)] 75)).alloc (.cells #[.int .u64 0, .int .u64 0, .int .u64 0, .int .u64 0, .int .u64 0, .int .u64 0, .int .u64 0, .int .u64 0, .int .u64 0, .int .u64 0, .int .u64 0, .int .u64 0, .int .u64 0, .int .u64 0, .int .u64 0, .int .u64 0] 73)).alloc (.cells #[.int .u64 0, .int .u64 0, .int .u64 0, .int .u64 0, .int .u64 0, .int .u64 0, .int .u64 0, .int .u64 0, .int .u64 0, .int .u64 0, .int .u64 0, .int .u64 0, .int .u64 0, .int .u64 0, .int .u64 0, .int .u64 0] 73)) := by
  refine ⟨(((At8.new w a).alloc _).alloc _).alloc _, ?_, ?_, ?_, ((((Below.refl _ w).alloc (Nat.le_refl _) _).alloc (by simp) _).alloc (by simp; omega) _).alloc (by simp; omega) _⟩
  · have h := At8.new (w.alloc (.cells #[.int .u64 (a 0), .int .u64 (a 1), .int .u64 (a 2), .int .u64 (a 3), .int .u64 (a 4), .int .u64 (a 5), .int .u64 (a 6), .int .u64 (a 7)] 75)) b
    rw [World.size_alloc] at h
    exact (h.alloc _).alloc _
  · have h := At16.new ((w.alloc (.cells #[.int .u64 (a 0), .int .u64 (a 1), .int .u64 (a 2), .int .u64 (a 3), .int .u64 (a 4), .int .u64 (a 5), .int .u64 (a 6), .int .u64 (a 7)] 75)).alloc (.cells #[.int .u64 (b 0), .int .u64 (b 1), .int .u64 (b 2), .int .u64 (b 3), .int .u64 (b 4), .int .u64 (b 5), .int .u64 (b 6), .int .u64 (b 7)] 75)) Zr
    rw [World.size_alloc, World.size_alloc] at h
    exact h.alloc _
  · have h := At16.new (((w.alloc (.cells #[.int .u64 (a 0), .int .u64 (a 1), .int .u64 (a 2), .int .u64 (a 3), .int .u64 (a 4), .int .u64 (a 5), .int .u64 (a 6), .int .u64 (a 7)] 75)).alloc (.cells #[.int .u64 (b 0), .int .u64 (b 1), .int .u64 (b 2), .int .u64 (b 3), .int .u64 (b 4), .int .u64 (b 5), .int .u64 (b 6), .int .u64 (b 7)] 75)).alloc (.cells #[.int .u64 0, .int .u64 0, .int .u64 0, .int .u64 0, .int .u64 0, .int .u64 0, .int .u64 0, .int .u64 0, .int .u64 0, .int .u64 0, .int .u64 0, .int .u64 0, .int .u64 0, .int .u64 0, .int .u64 0, .int .u64 0] 73)) Zr
    rw [World.size_alloc, World.size_alloc, World.size_alloc] at h
    exact h

set_option maxRecDepth 100000 in
set_option maxHeartbeats 4000000 in
theorem times_r (a b : Nat → Nat) (ha : Digs a) (hb : Digs b) (w : World) : Calls Try.prog 33 #[.agg #[.int .u64 (a 0), .int .u64 (a 1), .int .u64 (a 2), .int .u64 (a 3), .int .u64 (a 4), .int .u64 (a 5), .int .u64 (a 6), .int .u64 (a 7)], .agg #[.int .u64 (b 0), .int .u64 (b 1), .int .u64 (b 2), .int .u64 (b 3), .int .u64 (b 4), .int .u64 (b 5), .int .u64 (b 6), .int .u64 (b 7)]] w fun ee w' => ee = .returned (.agg #[.int .u64 (timesR a b 0), .int .u64 (timesR a b 1), .int .u64 (timesR a b 2), .int .u64 (timesR a b 3), .int .u64 (timesR a b 4), .int .u64 (timesR a b 5), .int .u64 (timesR a b 6), .int .u64 (timesR a b 7), .int .u64 (timesR a b 8), .int .u64 (timesR a b 9), .int .u64 (timesR a b 10), .int .u64 (timesR a b 11), .int .u64 (timesR a b 12), .int .u64 (timesR a b 13), .int .u64 (timesR a b 14), .int .u64 (timesR a b 15)]) ∧ Below w.heap.size w w' := by
  have hT := tb_new a b w
  go_enter Try.func33, Try.ntmps33
  go_wp2
  obtain ⟨V, hV⟩ : ∃ V, ((((w.alloc (.cells #[.int .u64 (a 0), .int .u64 (a 1), .int .u64 (a 2), .int .u64 (a 3), .int .u64 (a 4), .int .u64 (a 5), .int .u64 (a 6), .int .u64 (a 7)] 75)).alloc (.cells #[.int .u64 (b 0), .int .u64 (b 1), .int .u64 (b 2), .int .u64 (b 3), .int .u64 (b 4), .int .u64 (b 5), .int .u64 (b 6), .int .u64 (b 7)] 75)).alloc (.cells #[.int .u64 0, .int .u64 0, .int .u64 0, .int .u64 0, .int .u64 0, .int .u64 0, .int .u64 0, .int .u64 0, .int .u64 0, .int .u64 0, .int .u64 0, .int .u64 0, .int .u64 0, .int .u64 0, .int .u64 0, .int .u64 0] 73)).alloc (.cells #[.int .u64 0, .int .u64 0, .int .u64 0, .int .u64 0, .int .u64 0, .int .u64 0, .int .u64 0, .int .u64 0, .int .u64 0, .int .u64 0, .int .u64 0, .int .u64 0, .int .u64 0, .int .u64 0, .int .u64 0, .int .u64 0] 73)) = V := ⟨_, rfl⟩
  rw [hV] at hT ⊢
  clear hV
  obtain ⟨N, hN⟩ : ∃ N, w.heap.size = N := ⟨_, rfl⟩
  rw [hN] at hT ⊢
  go_loopw [6] (fun v6 wr => ∃ i : Nat, i ≤ 8 ∧ v6 = .int .i64 i ∧ Tb N w a b (tOut a b i) wr) (fun v6 _ => 8 - (intOf v6).toNat)
  case atStart => exact ⟨0, by omega, rfl, hT⟩
  case round =>
    clear hT
    obtain ⟨i, hi, rfl, hT⟩ := hrel
    by_cases hlt : i < 8
    · have hii : (i : Int) < 8 := by omega
      have ho := tOut_digs ha hb i
      have HE : Hid (tOut a b (i + 1) = tRow a b i (tOut a b i)) := Lib.hid rfl
      generalize hoo : tOut a b i = o at *
      clear hoo
      have ca := hT.1.cell i hlt
      have xi := ha i
      obtain ⟨x, hx⟩ : ∃ x, a i = x := ⟨_, rfl⟩
      rw [hx] at ca xi
      by_cases h0 : x = 0
      · subst h0
        have HX := Lib.hid hx
        clear hx
        go_wp2
        go_roundw
        case rel => exact ⟨i + 1, by omega, by go_num, by rw [HE.out, tRow, if_pos HX.out]; exact hT⟩
        case measure => simp [intOf]; omega
      · have HX := Lib.hid hx
        clear hx
        have hx1 : ((x : Int) == 0) = false := by rw [beq_eq_false_iff_ne]; omega
        go_wp2
        obtain ⟨wo, rfl⟩ : ∃ wo : World, wo = wr := ⟨_, rfl⟩
        go_loopw [7, 8] (fun v7 v8 wr => ∃ k : Nat, k ≤ 8 ∧ v8 = .int .i64 k ∧ v7 = .int .u64 (tIn a b i o k).2 ∧ Tb N w a b (tIn a b i o k).1 wr) (fun _ v8 _ => 8 - (intOf v8).toNat)
        case atStart => exact ⟨0, by omega, rfl, rfl, hT⟩
        case round =>
          clear hT ca
          obtain ⟨k, hk, rfl, rfl, hT⟩ := hrel
          by_cases hkt : k < 8
          · have hki : (k : Int) < 8 := by omega
            obtain ⟨h1, h2⟩ := tIn_fine (i := i) ha hb ho k
            have H1 : Hid ((tIn a b i o (k + 1)).1 = upd (tIn a b i o k).1 (i + k) (((tIn a b i o k).1 (i + k) + a i * b k + (tIn a b i o k).2) % 4294967296)) := Lib.hid rfl
            have H2 : Hid ((tIn a b i o (k + 1)).2 = ((tIn a b i o k).1 (i + k) + a i * b k + (tIn a b i o k).2) / 4294967296) := Lib.hid rfl
            generalize (tIn a b i o k).1 = q1 at *
            generalize (tIn a b i o k).2 = q2 at *
            have c0 := hT.2.2.2.1.cell (i + k) (by omega)
            have f0 := hT.2.2.2.1.frozen (i + k)
            have c1 := hT.1.cell i hlt
            have c2 := hT.2.1.cell k hkt
            have g0 := h1 (i + k)
            have g2 := hb k
            rw [HX.out] at c1 H1 H2
            obtain ⟨y, hy⟩ : ∃ y, b k = y := ⟨_, rfl⟩
            obtain ⟨u, hu⟩ : ∃ u, q1 (i + k) = u := ⟨_, rfl⟩
            rw [hy] at c2 g2 H1 H2
            rw [hu] at c0 g0 H1 H2
            clear hy hu h1 ho
            have m := prod_le xi g2
            have m0 : (0 : Int) ≤ (x : Int) * (y : Int) := Int.mul_nonneg (by omega) (by omega)
            have m1 : (x : Int) * (y : Int) ≤ 18446744065119617025 := by have := Int.ofNat_le.2 m; simpa using this
            have E : Hid (((u : Int) + (x : Int) * (y : Int) + (q2 : Int)) % 4294967296 = (((u + x * y + q2) % 4294967296 : Nat) : Int)) := Lib.hid (by simp)
            have F : Hid (((u : Int) + (x : Int) * (y : Int) + (q2 : Int)) / 4294967296 = (((u + x * y + q2) / 4294967296 : Nat) : Int)) := Lib.hid (by simp)
            clear m
            go_wp2
            go_quiet (fail)
            go_wp2
            go_roundw
            case rel => exact ⟨k + 1, by omega, by go_num, by rw [F.out, H2.out], by rw [E.out, H1.out]; exact tb_set (tb_drewN hT _) (i + k) _ (by omega)⟩
            case measure => simp [intOf]; omega
          · obtain rfl : k = 8 := by omega
            have HE2 : Hid (tOut a b (i + 1) = upd (tIn a b i o 8).1 (i + 8) (tIn a b i o 8).2) := Lib.hid (by rw [HE.out, tRow, if_neg (by rw [HX.out]; exact h0)])
            generalize (tIn a b i o 8).1 = q1 at *
            generalize (tIn a b i o 8).2 = q2 at *
            have c0 := hT.2.2.2.1.cell (i + 8) (by omega)
            have f0 := hT.2.2.2.1.frozen (i + 8)
            go_wp2
            go_roundw
            case rel => exact ⟨i + 1, by omega, by go_num, by rw [HE2.out]; exact tb_set hT (i + 8) _ (by omega)⟩
            case measure => simp [intOf]; omega
    · obtain rfl : i = 8 := by omega
      change Tb N w a b (timesR a b) wr at hT
      have c0 := hT.2.2.2.1.cell 0 (by omega)
      have c1 := hT.2.2.2.1.cell 1 (by omega)
      have c2 := hT.2.2.2.1.cell 2 (by omega)
      have c3 := hT.2.2.2.1.cell 3 (by omega)
      have c4 := hT.2.2.2.1.cell 4 (by omega)
      have c5 := hT.2.2.2.1.cell 5 (by omega)
      have c6 := hT.2.2.2.1.cell 6 (by omega)
      have c7 := hT.2.2.2.1.cell 7 (by omega)
      have c8 := hT.2.2.2.1.cell 8 (by omega)
      have c9 := hT.2.2.2.1.cell 9 (by omega)
      have c10 := hT.2.2.2.1.cell 10 (by omega)
      have c11 := hT.2.2.2.1.cell 11 (by omega)
      have c12 := hT.2.2.2.1.cell 12 (by omega)
      have c13 := hT.2.2.2.1.cell 13 (by omega)
      have c14 := hT.2.2.2.1.cell 14 (by omega)
      have c15 := hT.2.2.2.1.cell 15 (by omega)
      have z0 := hT.2.2.1.cell 0 (by omega)
      have zf0 := hT.2.2.1.frozen 0
      have z1 := hT.2.2.1.cell 1 (by omega)
      have zf1 := hT.2.2.1.frozen 1
      have z2 := hT.2.2.1.cell 2 (by omega)
      have zf2 := hT.2.2.1.frozen 2
      have z3 := hT.2.2.1.cell 3 (by omega)
      have zf3 := hT.2.2.1.frozen 3
      have z4 := hT.2.2.1.cell 4 (by omega)
      have zf4 := hT.2.2.1.frozen 4
      have z5 := hT.2.2.1.cell 5 (by omega)
      have zf5 := hT.2.2.1.frozen 5
      have z6 := hT.2.2.1.cell 6 (by omega)
      have zf6 := hT.2.2.1.frozen 6
      have z7 := hT.2.2.1.cell 7 (by omega)
      have zf7 := hT.2.2.1.frozen 7
      have z8 := hT.2.2.1.cell 8 (by omega)
      have zf8 := hT.2.2.1.frozen 8
      have z9 := hT.2.2.1.cell 9 (by omega)
      have zf9 := hT.2.2.1.frozen 9
      have z10 := hT.2.2.1.cell 10 (by omega)
      have zf10 := hT.2.2.1.frozen 10
      have z11 := hT.2.2.1.cell 11 (by omega)
      have zf11 := hT.2.2.1.frozen 11
      have z12 := hT.2.2.1.cell 12 (by omega)
      have zf12 := hT.2.2.1.frozen 12
      have z13 := hT.2.2.1.cell 13 (by omega)
      have zf13 := hT.2.2.1.frozen 13
      have z14 := hT.2.2.1.cell 14 (by omega)
      have zf14 := hT.2.2.1.frozen 14
      have z15 := hT.2.2.1.cell 15 (by omega)
      have zf15 := hT.2.2.1.frozen 15
      have hNN : N ≤ N + 1 + 1 := by omega
      go_wp2
      refine bodyPost_ret (v := .agg #[.int .u64 (timesR a b 0), .int .u64 (timesR a b 1), .int .u64 (timesR a b 2), .int .u64 (timesR a b 3), .int .u64 (timesR a b 4), .int .u64 (timesR a b 5), .int .u64 (timesR a b 6), .int .u64 (timesR a b 7), .int .u64 (timesR a b 8), .int .u64 (timesR a b 9), .int .u64 (timesR a b 10), .int .u64 (timesR a b 11), .int .u64 (timesR a b 12), .int .u64 (timesR a b 13), .int .u64 (timesR a b 14), .int .u64 (timesR a b 15)]) (by simp [results, Try.results33, go_sem, z0, z1, z2, z3, z4, z5, z6, z7, z8, z9, z10, z11, z12, z13, z14, z15]) rfl ⟨rfl, ?_⟩
      rw [hN]
      exact ((((((((((((((((hT.2.2.2.2.setCell (p := ⟨N + 1 + 1, 0, none⟩) hNN _).setCell (p := ⟨N + 1 + 1, 1, none⟩) hNN _).setCell (p := ⟨N + 1 + 1, 2, none⟩) hNN _).setCell (p := ⟨N + 1 + 1, 3, none⟩) hNN _).setCell (p := ⟨N + 1 + 1, 4, none⟩) hNN _).setCell (p := ⟨N + 1 + 1, 5, none⟩) hNN _).setCell (p := ⟨N + 1 + 1, 6, none⟩) hNN _).setCell (p := ⟨N + 1 + 1, 7, none⟩) hNN _).setCell (p := ⟨N + 1 + 1, 8, none⟩) hNN _).setCell (p := ⟨N + 1 + 1, 9, none⟩) hNN _).setCell (p := ⟨N + 1 + 1, 10, none⟩) hNN _).setCell (p := ⟨N + 1 + 1, 11, none⟩) hNN _).setCell (p := ⟨N + 1 + 1, 12, none⟩) hNN _).setCell (p := ⟨N + 1 + 1, 13, none⟩) hNN _).setCell (p := ⟨N + 1 + 1, 14, none⟩) hNN _).setCell (p := ⟨N + 1 + 1, 15, none⟩) hNN _)

end Go.Proofs.Ytpllklojcjhjaaa

/- The document's own Mul. -/
namespace Go.Proofs.Ytpllklojcjhjaaa
open Go Go.RowKit
set_option linter.unusedSimpArgs false
set_option linter.unusedVariables false

def D16 (d0 d1 d2 d3 d4 d5 d6 d7 d8 d9 d10 d11 d12 d13 d14 d15 : Nat) : Value := .agg ⟨[u d0, u d1, u d2, u d3, u d4, u d5, u d6, u d7, u d8, u d9, u d10, u d11, u d12, u d13, u d14, u d15]⟩
theorem rsize_raw1 (x y e0 e1 e2 e3 e4 e5 e6 e7 : Nat) (p q : Bool) : runA Try.prog 34 #[wv x] [t] [(36, rt (bb (p))), (37, rt (tp [wv y, bb (q)])), (52, rt (D8 e0 e1 e2 e3 e4 e5 e6 e7))] =
    some (rt (D8 e0 e1 e2 e3 e4 e5 e6 e7), [PureX Try.prog 36 #[wv x] (rt (bb (p))), (p) = true, PureX Try.prog 37 #[wv x] (rt (tp [wv y, bb (q)])), PureX Try.prog 52 #[wv y] (rt (D8 e0 e1 e2 e3 e4 e5 e6 e7))]) := by kernel_rfl
theorem rsize_raw2 (x e0 e1 e2 e3 e4 e5 e6 e7 : Nat) (p : Bool) : runA Try.prog 34 #[wv x] [f] [(36, rt (bb (p))), (52, rt (D8 e0 e1 e2 e3 e4 e5 e6 e7))] =
    some (rt (D8 e0 e1 e2 e3 e4 e5 e6 e7), [PureX Try.prog 36 #[wv x] (rt (bb (p))), (p) = false, PureX Try.prog 52 #[wv x] (rt (D8 e0 e1 e2 e3 e4 e5 e6 e7))]) := by kernel_rfl
theorem rmul_raws8 (x y z e0 e1 e2 e3 e4 e5 e6 e7 f0 f1 f2 f3 f4 f5 f6 f7 d0 d1 d2 d3 d4 d5 d6 d7 d8 d9 d10 d11 d12 d13 d14 d15 : Nat) (p q r : Bool) : runA Try.prog 21 #[wv x, wv y] [n, n, n, n, n, n, n, f, n, n, n, n, n, f, n, n, n, n, n, f, n, n, n, n, n, f, n, n, n, n, n, f, n, n, n, n, n, f, n, n, n, n, n, f, n, n, n, n, n, t, f, n] [(34, rt (D8 e0 e1 e2 e3 e4 e5 e6 e7)), (34, rt (D8 f0 f1 f2 f3 f4 f5 f6 f7)), (33, rt (D16 d0 d1 d2 d3 d4 d5 d6 d7 d8 d9 d10 d11 d12 d13 d14 d15)), (35, rt (wv z)), (36, rt (bb (p))), (36, rt (bb (q))), (36, rt (bb (r)))] =
    some (rt (tp [wv z, bb (r)]), [PureX Try.prog 34 #[wv x] (rt (D8 e0 e1 e2 e3 e4 e5 e6 e7)), PureX Try.prog 34 #[wv y] (rt (D8 f0 f1 f2 f3 f4 f5 f6 f7)), PureX Try.prog 33 #[D8 e0 e1 e2 e3 e4 e5 e6 e7, D8 f0 f1 f2 f3 f4 f5 f6 f7] (rt (D16 d0 d1 d2 d3 d4 d5 d6 d7 d8 d9 d10 d11 d12 d13 d14 d15)), (decide (Int.ofNat 0 < Int.ofNat d8)) = false, (decide (Int.ofNat 0 < Int.ofNat d9)) = false, (decide (Int.ofNat 0 < Int.ofNat d10)) = false, (decide (Int.ofNat 0 < Int.ofNat d11)) = false, (decide (Int.ofNat 0 < Int.ofNat d12)) = false, (decide (Int.ofNat 0 < Int.ofNat d13)) = false, (decide (Int.ofNat 0 < Int.ofNat d14)) = false, PureX Try.prog 35 #[D8 d0 d1 d2 d3 d4 d5 d6 d7] (rt (wv z)), PureX Try.prog 36 #[wv x] (rt (bb (p))), PureX Try.prog 36 #[wv y] (rt (bb (q))), (p == q) = true, (decide (Int.ofNat 0 < Int.ofNat d15)) = false, PureX Try.prog 36 #[wv z] (rt (bb (r)))]) := by kernel_rfl
theorem rmul_rawd8 (x y z zz e0 e1 e2 e3 e4 e5 e6 e7 f0 f1 f2 f3 f4 f5 f6 f7 d0 d1 d2 d3 d4 d5 d6 d7 d8 d9 d10 d11 d12 d13 d14 d15 : Nat) (p q r s : Bool) : runA Try.prog 21 #[wv x, wv y] [n, n, n, n, n, n, n, f, n, n, n, n, n, f, n, n, n, n, n, f, n, n, n, n, n, f, n, n, n, n, n, f, n, n, n, n, n, f, n, n, n, n, n, f, n, n, n, n, n, f, f, n, n, n, t, n, n, n] [(34, rt (D8 e0 e1 e2 e3 e4 e5 e6 e7)), (34, rt (D8 f0 f1 f2 f3 f4 f5 f6 f7)), (33, rt (D16 d0 d1 d2 d3 d4 d5 d6 d7 d8 d9 d10 d11 d12 d13 d14 d15)), (35, rt (wv z)), (36, rt (bb (p))), (36, rt (bb (q))), (37, rt (tp [wv zz, bb (r)])), (36, rt (bb (s)))] =
    some (rt (tp [wv zz, bb (!(s))]), [PureX Try.prog 34 #[wv x] (rt (D8 e0 e1 e2 e3 e4 e5 e6 e7)), PureX Try.prog 34 #[wv y] (rt (D8 f0 f1 f2 f3 f4 f5 f6 f7)), PureX Try.prog 33 #[D8 e0 e1 e2 e3 e4 e5 e6 e7, D8 f0 f1 f2 f3 f4 f5 f6 f7] (rt (D16 d0 d1 d2 d3 d4 d5 d6 d7 d8 d9 d10 d11 d12 d13 d14 d15)), (decide (Int.ofNat 0 < Int.ofNat d8)) = false, (decide (Int.ofNat 0 < Int.ofNat d9)) = false, (decide (Int.ofNat 0 < Int.ofNat d10)) = false, (decide (Int.ofNat 0 < Int.ofNat d11)) = false, (decide (Int.ofNat 0 < Int.ofNat d12)) = false, (decide (Int.ofNat 0 < Int.ofNat d13)) = false, (decide (Int.ofNat 0 < Int.ofNat d14)) = false, PureX Try.prog 35 #[D8 d0 d1 d2 d3 d4 d5 d6 d7] (rt (wv z)), PureX Try.prog 36 #[wv x] (rt (bb (p))), PureX Try.prog 36 #[wv y] (rt (bb (q))), (p == q) = false, PureX Try.prog 37 #[wv z] (rt (tp [wv zz, bb (r)])), (decide (Int.ofNat 0 < Int.ofNat d15)) = false, (!(eqv z 0)) = true, PureX Try.prog 36 #[wv zz] (rt (bb (s)))]) := by kernel_rfl
theorem rmul_rawz (x y z zz e0 e1 e2 e3 e4 e5 e6 e7 f0 f1 f2 f3 f4 f5 f6 f7 d0 d1 d2 d3 d4 d5 d6 d7 d8 d9 d10 d11 d12 d13 d14 d15 : Nat) (p q r s : Bool) : runA Try.prog 21 #[wv x, wv y] [n, n, n, n, n, n, n, f, n, n, n, n, n, f, n, n, n, n, n, f, n, n, n, n, n, f, n, n, n, n, n, f, n, n, n, n, n, f, n, n, n, n, n, f, n, n, n, n, n, f, f, n, n, n, f, n, n, n] [(34, rt (D8 e0 e1 e2 e3 e4 e5 e6 e7)), (34, rt (D8 f0 f1 f2 f3 f4 f5 f6 f7)), (33, rt (D16 d0 d1 d2 d3 d4 d5 d6 d7 d8 d9 d10 d11 d12 d13 d14 d15)), (35, rt (wv z)), (36, rt (bb (p))), (36, rt (bb (q))), (37, rt (tp [wv zz, bb (r)])), (36, rt (bb (s)))] =
    some (rt (tp [wv zz, bb (false)]), [PureX Try.prog 34 #[wv x] (rt (D8 e0 e1 e2 e3 e4 e5 e6 e7)), PureX Try.prog 34 #[wv y] (rt (D8 f0 f1 f2 f3 f4 f5 f6 f7)), PureX Try.prog 33 #[D8 e0 e1 e2 e3 e4 e5 e6 e7, D8 f0 f1 f2 f3 f4 f5 f6 f7] (rt (D16 d0 d1 d2 d3 d4 d5 d6 d7 d8 d9 d10 d11 d12 d13 d14 d15)), (decide (Int.ofNat 0 < Int.ofNat d8)) = false, (decide (Int.ofNat 0 < Int.ofNat d9)) = false, (decide (Int.ofNat 0 < Int.ofNat d10)) = false, (decide (Int.ofNat 0 < Int.ofNat d11)) = false, (decide (Int.ofNat 0 < Int.ofNat d12)) = false, (decide (Int.ofNat 0 < Int.ofNat d13)) = false, (decide (Int.ofNat 0 < Int.ofNat d14)) = false, PureX Try.prog 35 #[D8 d0 d1 d2 d3 d4 d5 d6 d7] (rt (wv z)), PureX Try.prog 36 #[wv x] (rt (bb (p))), PureX Try.prog 36 #[wv y] (rt (bb (q))), (p == q) = false, PureX Try.prog 37 #[wv z] (rt (tp [wv zz, bb (r)])), (decide (Int.ofNat 0 < Int.ofNat d15)) = false, (!(eqv z 0)) = false]) := by kernel_rfl
theorem rmul_raws0 (x y z e0 e1 e2 e3 e4 e5 e6 e7 f0 f1 f2 f3 f4 f5 f6 f7 d0 d1 d2 d3 d4 d5 d6 d7 d8 d9 d10 d11 d12 d13 d14 d15 : Nat) (p q : Bool) : runA Try.prog 21 #[wv x, wv y] [n, n, n, n, n, n, n, t, n, n, n, n, n, n, n, n, n, n, n, n, n, n, n, n, n, n, n, n, n, n, n, n, n, n, n, n, n, n, n, n, n, n, n, n, n, n, n, n, n, t, n, n] [(34, rt (D8 e0 e1 e2 e3 e4 e5 e6 e7)), (34, rt (D8 f0 f1 f2 f3 f4 f5 f6 f7)), (33, rt (D16 d0 d1 d2 d3 d4 d5 d6 d7 d8 d9 d10 d11 d12 d13 d14 d15)), (35, rt (wv z)), (36, rt (bb p)), (36, rt (bb q))] =
    some (rt (tp [wv z, bb true]), [PureX Try.prog 34 #[wv x] (rt (D8 e0 e1 e2 e3 e4 e5 e6 e7)), PureX Try.prog 34 #[wv y] (rt (D8 f0 f1 f2 f3 f4 f5 f6 f7)), PureX Try.prog 33 #[D8 e0 e1 e2 e3 e4 e5 e6 e7, D8 f0 f1 f2 f3 f4 f5 f6 f7] (rt (D16 d0 d1 d2 d3 d4 d5 d6 d7 d8 d9 d10 d11 d12 d13 d14 d15)), (decide (Int.ofNat 0 < Int.ofNat d8)) = true, PureX Try.prog 35 #[D8 d0 d1 d2 d3 d4 d5 d6 d7] (rt (wv z)), PureX Try.prog 36 #[wv x] (rt (bb p)), PureX Try.prog 36 #[wv y] (rt (bb q)), (p == q) = true]) := by kernel_rfl
theorem rmul_rawd0 (x y z zz e0 e1 e2 e3 e4 e5 e6 e7 f0 f1 f2 f3 f4 f5 f6 f7 d0 d1 d2 d3 d4 d5 d6 d7 d8 d9 d10 d11 d12 d13 d14 d15 : Nat) (p q r : Bool) : runA Try.prog 21 #[wv x, wv y] [n, n, n, n, n, n, n, t, n, n, n, n, n, n, n, n, n, n, n, n, n, n, n, n, n, n, n, n, n, n, n, n, n, n, n, n, n, n, n, n, n, n, n, n, n, n, n, n, n, f, n, n, n, n, n] [(34, rt (D8 e0 e1 e2 e3 e4 e5 e6 e7)), (34, rt (D8 f0 f1 f2 f3 f4 f5 f6 f7)), (33, rt (D16 d0 d1 d2 d3 d4 d5 d6 d7 d8 d9 d10 d11 d12 d13 d14 d15)), (35, rt (wv z)), (36, rt (bb (p))), (36, rt (bb (q))), (37, rt (tp [wv zz, bb (r)]))] =
    some (rt (tp [wv zz, bb (true)]), [PureX Try.prog 34 #[wv x] (rt (D8 e0 e1 e2 e3 e4 e5 e6 e7)), PureX Try.prog 34 #[wv y] (rt (D8 f0 f1 f2 f3 f4 f5 f6 f7)), PureX Try.prog 33 #[D8 e0 e1 e2 e3 e4 e5 e6 e7, D8 f0 f1 f2 f3 f4 f5 f6 f7] (rt (D16 d0 d1 d2 d3 d4 d5 d6 d7 d8 d9 d10 d11 d12 d13 d14 d15)), (decide (Int.ofNat 0 < Int.ofNat d8)) = true, PureX Try.prog 35 #[D8 d0 d1 d2 d3 d4 d5 d6 d7] (rt (wv z)), PureX Try.prog 36 #[wv x] (rt (bb (p))), PureX Try.prog 36 #[wv y] (rt (bb (q))), (p == q) = false, PureX Try.prog 37 #[wv z] (rt (tp [wv zz, bb (r)]))]) := by kernel_rfl
theorem rmul_raws1 (x y z e0 e1 e2 e3 e4 e5 e6 e7 f0 f1 f2 f3 f4 f5 f6 f7 d0 d1 d2 d3 d4 d5 d6 d7 d8 d9 d10 d11 d12 d13 d14 d15 : Nat) (p q : Bool) : runA Try.prog 21 #[wv x, wv y] [n, n, n, n, n, n, n, f, n, n, n, n, n, t, n, n, n, n, n, n, n, n, n, n, n, n, n, n, n, n, n, n, n, n, n, n, n, n, n, n, n, n, n, n, n, n, n, n, n, t, n, n] [(34, rt (D8 e0 e1 e2 e3 e4 e5 e6 e7)), (34, rt (D8 f0 f1 f2 f3 f4 f5 f6 f7)), (33, rt (D16 d0 d1 d2 d3 d4 d5 d6 d7 d8 d9 d10 d11 d12 d13 d14 d15)), (35, rt (wv z)), (36, rt (bb p)), (36, rt (bb q))] =
    some (rt (tp [wv z, bb true]), [PureX Try.prog 34 #[wv x] (rt (D8 e0 e1 e2 e3 e4 e5 e6 e7)), PureX Try.prog 34 #[wv y] (rt (D8 f0 f1 f2 f3 f4 f5 f6 f7)), PureX Try.prog 33 #[D8 e0 e1 e2 e3 e4 e5 e6 e7, D8 f0 f1 f2 f3 f4 f5 f6 f7] (rt (D16 d0 d1 d2 d3 d4 d5 d6 d7 d8 d9 d10 d11 d12 d13 d14 d15)), (decide (Int.ofNat 0 < Int.ofNat d8)) = false, (decide (Int.ofNat 0 < Int.ofNat d9)) = true, PureX Try.prog 35 #[D8 d0 d1 d2 d3 d4 d5 d6 d7] (rt (wv z)), PureX Try.prog 36 #[wv x] (rt (bb p)), PureX Try.prog 36 #[wv y] (rt (bb q)), (p == q) = true]) := by kernel_rfl
theorem rmul_rawd1 (x y z zz e0 e1 e2 e3 e4 e5 e6 e7 f0 f1 f2 f3 f4 f5 f6 f7 d0 d1 d2 d3 d4 d5 d6 d7 d8 d9 d10 d11 d12 d13 d14 d15 : Nat) (p q r : Bool) : runA Try.prog 21 #[wv x, wv y] [n, n, n, n, n, n, n, f, n, n, n, n, n, t, n, n, n, n, n, n, n, n, n, n, n, n, n, n, n, n, n, n, n, n, n, n, n, n, n, n, n, n, n, n, n, n, n, n, n, f, n, n, n, n, n] [(34, rt (D8 e0 e1 e2 e3 e4 e5 e6 e7)), (34, rt (D8 f0 f1 f2 f3 f4 f5 f6 f7)), (33, rt (D16 d0 d1 d2 d3 d4 d5 d6 d7 d8 d9 d10 d11 d12 d13 d14 d15)), (35, rt (wv z)), (36, rt (bb (p))), (36, rt (bb (q))), (37, rt (tp [wv zz, bb (r)]))] =
    some (rt (tp [wv zz, bb (true)]), [PureX Try.prog 34 #[wv x] (rt (D8 e0 e1 e2 e3 e4 e5 e6 e7)), PureX Try.prog 34 #[wv y] (rt (D8 f0 f1 f2 f3 f4 f5 f6 f7)), PureX Try.prog 33 #[D8 e0 e1 e2 e3 e4 e5 e6 e7, D8 f0 f1 f2 f3 f4 f5 f6 f7] (rt (D16 d0 d1 d2 d3 d4 d5 d6 d7 d8 d9 d10 d11 d12 d13 d14 d15)), (decide (Int.ofNat 0 < Int.ofNat d8)) = false, (decide (Int.ofNat 0 < Int.ofNat d9)) = true, PureX Try.prog 35 #[D8 d0 d1 d2 d3 d4 d5 d6 d7] (rt (wv z)), PureX Try.prog 36 #[wv x] (rt (bb (p))), PureX Try.prog 36 #[wv y] (rt (bb (q))), (p == q) = false, PureX Try.prog 37 #[wv z] (rt (tp [wv zz, bb (r)]))]) := by kernel_rfl
theorem rmul_raws2 (x y z e0 e1 e2 e3 e4 e5 e6 e7 f0 f1 f2 f3 f4 f5 f6 f7 d0 d1 d2 d3 d4 d5 d6 d7 d8 d9 d10 d11 d12 d13 d14 d15 : Nat) (p q : Bool) : runA Try.prog 21 #[wv x, wv y] [n, n, n, n, n, n, n, f, n, n, n, n, n, f, n, n, n, n, n, t, n, n, n, n, n, n, n, n, n, n, n, n, n, n, n, n, n, n, n, n, n, n, n, n, n, n, n, n, n, t, n, n] [(34, rt (D8 e0 e1 e2 e3 e4 e5 e6 e7)), (34, rt (D8 f0 f1 f2 f3 f4 f5 f6 f7)), (33, rt (D16 d0 d1 d2 d3 d4 d5 d6 d7 d8 d9 d10 d11 d12 d13 d14 d15)), (35, rt (wv z)), (36, rt (bb p)), (36, rt (bb q))] =
    some (rt (tp [wv z, bb true]), [PureX Try.prog 34 #[wv x] (rt (D8 e0 e1 e2 e3 e4 e5 e6 e7)), PureX Try.prog 34 #[wv y] (rt (D8 f0 f1 f2 f3 f4 f5 f6 f7)), PureX Try.prog 33 #[D8 e0 e1 e2 e3 e4 e5 e6 e7, D8 f0 f1 f2 f3 f4 f5 f6 f7] (rt (D16 d0 d1 d2 d3 d4 d5 d6 d7 d8 d9 d10 d11 d12 d13 d14 d15)), (decide (Int.ofNat 0 < Int.ofNat d8)) = false, (decide (Int.ofNat 0 < Int.ofNat d9)) = false, (decide (Int.ofNat 0 < Int.ofNat d10)) = true, PureX Try.prog 35 #[D8 d0 d1 d2 d3 d4 d5 d6 d7] (rt (wv z)), PureX Try.prog 36 #[wv x] (rt (bb p)), PureX Try.prog 36 #[wv y] (rt (bb q)), (p == q) = true]) := by kernel_rfl
theorem rmul_rawd2 (x y z zz e0 e1 e2 e3 e4 e5 e6 e7 f0 f1 f2 f3 f4 f5 f6 f7 d0 d1 d2 d3 d4 d5 d6 d7 d8 d9 d10 d11 d12 d13 d14 d15 : Nat) (p q r : Bool) : runA Try.prog 21 #[wv x, wv y] [n, n, n, n, n, n, n, f, n, n, n, n, n, f, n, n, n, n, n, t, n, n, n, n, n, n, n, n, n, n, n, n, n, n, n, n, n, n, n, n, n, n, n, n, n, n, n, n, n, f, n, n, n, n, n] [(34, rt (D8 e0 e1 e2 e3 e4 e5 e6 e7)), (34, rt (D8 f0 f1 f2 f3 f4 f5 f6 f7)), (33, rt (D16 d0 d1 d2 d3 d4 d5 d6 d7 d8 d9 d10 d11 d12 d13 d14 d15)), (35, rt (wv z)), (36, rt (bb (p))), (36, rt (bb (q))), (37, rt (tp [wv zz, bb (r)]))] =
    some (rt (tp [wv zz, bb (true)]), [PureX Try.prog 34 #[wv x] (rt (D8 e0 e1 e2 e3 e4 e5 e6 e7)), PureX Try.prog 34 #[wv y] (rt (D8 f0 f1 f2 f3 f4 f5 f6 f7)), PureX Try.prog 33 #[D8 e0 e1 e2 e3 e4 e5 e6 e7, D8 f0 f1 f2 f3 f4 f5 f6 f7] (rt (D16 d0 d1 d2 d3 d4 d5 d6 d7 d8 d9 d10 d11 d12 d13 d14 d15)), (decide (Int.ofNat 0 < Int.ofNat d8)) = false, (decide (Int.ofNat 0 < Int.ofNat d9)) = false, (decide (Int.ofNat 0 < Int.ofNat d10)) = true, PureX Try.prog 35 #[D8 d0 d1 d2 d3 d4 d5 d6 d7] (rt (wv z)), PureX Try.prog 36 #[wv x] (rt (bb (p))), PureX Try.prog 36 #[wv y] (rt (bb (q))), (p == q) = false, PureX Try.prog 37 #[wv z] (rt (tp [wv zz, bb (r)]))]) := by kernel_rfl
theorem rmul_raws3 (x y z e0 e1 e2 e3 e4 e5 e6 e7 f0 f1 f2 f3 f4 f5 f6 f7 d0 d1 d2 d3 d4 d5 d6 d7 d8 d9 d10 d11 d12 d13 d14 d15 : Nat) (p q : Bool) : runA Try.prog 21 #[wv x, wv y] [n, n, n, n, n, n, n, f, n, n, n, n, n, f, n, n, n, n, n, f, n, n, n, n, n, t, n, n, n, n, n, n, n, n, n, n, n, n, n, n, n, n, n, n, n, n, n, n, n, t, n, n] [(34, rt (D8 e0 e1 e2 e3 e4 e5 e6 e7)), (34, rt (D8 f0 f1 f2 f3 f4 f5 f6 f7)), (33, rt (D16 d0 d1 d2 d3 d4 d5 d6 d7 d8 d9 d10 d11 d12 d13 d14 d15)), (35, rt (wv z)), (36, rt (bb p)), (36, rt (bb q))] =
    some (rt (tp [wv z, bb true]), [PureX Try.prog 34 #[wv x] (rt (D8 e0 e1 e2 e3 e4 e5 e6 e7)), PureX Try.prog 34 #[wv y] (rt (D8 f0 f1 f2 f3 f4 f5 f6 f7)), PureX Try.prog 33 #[D8 e0 e1 e2 e3 e4 e5 e6 e7, D8 f0 f1 f2 f3 f4 f5 f6 f7] (rt (D16 d0 d1 d2 d3 d4 d5 d6 d7 d8 d9 d10 d11 d12 d13 d14 d15)), (decide (Int.ofNat 0 < Int.ofNat d8)) = false, (decide (Int.ofNat 0 < Int.ofNat d9)) = false, (decide (Int.ofNat 0 < Int.ofNat d10)) = false, (decide (Int.ofNat 0 < Int.ofNat d11)) = true, PureX Try.prog 35 #[D8 d0 d1 d2 d3 d4 d5 d6 d7] (rt (wv z)), PureX Try.prog 36 #[wv x] (rt (bb p)), PureX Try.prog 36 #[wv y] (rt (bb q)), (p == q) = true]) := by kernel_rfl
theorem rmul_rawd3 (x y z zz e0 e1 e2 e3 e4 e5 e6 e7 f0 f1 f2 f3 f4 f5 f6 f7 d0 d1 d2 d3 d4 d5 d6 d7 d8 d9 d10 d11 d12 d13 d14 d15 : Nat) (p q r : Bool) : runA Try.prog 21 #[wv x, wv y] [n, n, n, n, n, n, n, f, n, n, n, n, n, f, n, n, n, n, n, f, n, n, n, n, n, t, n, n, n, n, n, n, n, n, n, n, n, n, n, n, n, n, n, n, n, n, n, n, n, f, n, n, n, n, n] [(34, rt (D8 e0 e1 e2 e3 e4 e5 e6 e7)), (34, rt (D8 f0 f1 f2 f3 f4 f5 f6 f7)), (33, rt (D16 d0 d1 d2 d3 d4 d5 d6 d7 d8 d9 d10 d11 d12 d13 d14 d15)), (35, rt (wv z)), (36, rt (bb (p))), (36, rt (bb (q))), (37, rt (tp [wv zz, bb (r)]))] =
    some (rt (tp [wv zz, bb (true)]), [PureX Try.prog 34 #[wv x] (rt (D8 e0 e1 e2 e3 e4 e5 e6 e7)), PureX Try.prog 34 #[wv y] (rt (D8 f0 f1 f2 f3 f4 f5 f6 f7)), PureX Try.prog 33 #[D8 e0 e1 e2 e3 e4 e5 e6 e7, D8 f0 f1 f2 f3 f4 f5 f6 f7] (rt (D16 d0 d1 d2 d3 d4 d5 d6 d7 d8 d9 d10 d11 d12 d13 d14 d15)), (decide (Int.ofNat 0 < Int.ofNat d8)) = false, (decide (Int.ofNat 0 < Int.ofNat d9)) = false, (decide (Int.ofNat 0 < Int.ofNat d10)) = false, (decide (Int.ofNat 0 < Int.ofNat d11)) = true, PureX Try.prog 35 #[D8 d0 d1 d2 d3 d4 d5 d6 d7] (rt (wv z)), PureX Try.prog 36 #[wv x] (rt (bb (p))), PureX Try.prog 36 #[wv y] (rt (bb (q))), (p == q) = false, PureX Try.prog 37 #[wv z] (rt (tp [wv zz, bb (r)]))]) := by kernel_rfl
theorem rmul_raws4 (x y z e0 e1 e2 e3 e4 e5 e6 e7 f0 f1 f2 f3 f4 f5 f6 f7 d0 d1 d2 d3 d4 d5 d6 d7 d8 d9 d10 d11 d12 d13 d14 d15 : Nat) (p q : Bool) : runA Try.prog 21 #[wv x, wv y] [n, n, n, n, n, n, n, f, n, n, n, n, n, f, n, n, n, n, n, f, n, n, n, n, n, f, n, n, n, n, n, t, n, n, n, n, n, n, n, n, n, n, n, n, n, n, n, n, n, t, n, n] [(34, rt (D8 e0 e1 e2 e3 e4 e5 e6 e7)), (34, rt (D8 f0 f1 f2 f3 f4 f5 f6 f7)), (33, rt (D16 d0 d1 d2 d3 d4 d5 d6 d7 d8 d9 d10 d11 d12 d13 d14 d15)), (35, rt (wv z)), (36, rt (bb p)), (36, rt (bb q))] =
    some (rt (tp [wv z, bb true]), [PureX Try.prog 34 #[wv x] (rt (D8 e0 e1 e2 e3 e4 e5 e6 e7)), PureX Try.prog 34 #[wv y] (rt (D8 f0 f1 f2 f3 f4 f5 f6 f7)), PureX Try.prog 33 #[D8 e0 e1 e2 e3 e4 e5 e6 e7, D8 f0 f1 f2 f3 f4 f5 f6 f7] (rt (D16 d0 d1 d2 d3 d4 d5 d6 d7 d8 d9 d10 d11 d12 d13 d14 d15)), (decide (Int.ofNat 0 < Int.ofNat d8)) = false, (decide (Int.ofNat 0 < Int.ofNat d9)) = false, (decide (Int.ofNat 0 < Int.ofNat d10)) = false, (decide (Int.ofNat 0 < Int.ofNat d11)) = false, (decide (Int.ofNat 0 < Int.ofNat d12)) = true, PureX Try.prog 35 #[D8 d0 d1 d2 d3 d4 d5 d6 d7] (rt (wv z)), PureX Try.prog 36 #[wv x] (rt (bb p)), PureX Try.prog 36 #[wv y] (rt (bb q)), (p == q) = true]) := by kernel_rfl
theorem rmul_rawd4 (x y z zz e0 e1 e2 e3 e4 e5 e6 e7 f0 f1 f2 f3 f4 f5 f6 f7 d0 d1 d2 d3 d4 d5 d6 d7 d8 d9 d10 d11 d12 d13 d14 d15 : Nat) (p q r : Bool) : runA Try.prog 21 #[wv x, wv y] [n, n, n, n, n, n, n, f, n, n, n, n, n, f, n, n, n, n, n, f, n, n, n, n, n, f, n, n, n, n, n, t, n, n, n, n, n, n, n, n, n, n, n, n, n, n, n, n, n, f, n, n, n, n, n] [(34, rt (D8 e0 e1 e2 e3 e4 e5 e6 e7)), (34, rt (D8 f0 f1 f2 f3 f4 f5 f6 f7)), (33, rt (D16 d0 d1 d2 d3 d4 d5 d6 d7 d8 d9 d10 d11 d12 d13 d14 d15)), (35, rt (wv z)), (36, rt (bb (p))), (36, rt (bb (q))), (37, rt (tp [wv zz, bb (r)]))] =
    some (rt (tp [wv zz, bb (true)]), [PureX Try.prog 34 #[wv x] (rt (D8 e0 e1 e2 e3 e4 e5 e6 e7)), PureX Try.prog 34 #[wv y] (rt (D8 f0 f1 f2 f3 f4 f5 f6 f7)), PureX Try.prog 33 #[D8 e0 e1 e2 e3 e4 e5 e6 e7, D8 f0 f1 f2 f3 f4 f5 f6 f7] (rt (D16 d0 d1 d2 d3 d4 d5 d6 d7 d8 d9 d10 d11 d12 d13 d14 d15)), (decide (Int.ofNat 0 < Int.ofNat d8)) = false, (decide (Int.ofNat 0 < Int.ofNat d9)) = false, (decide (Int.ofNat 0 < Int.ofNat d10)) = false, (decide (Int.ofNat 0 < Int.ofNat d11)) = false, (decide (Int.ofNat 0 < Int.ofNat d12)) = true, PureX Try.prog 35 #[D8 d0 d1 d2 d3 d4 d5 d6 d7] (rt (wv z)), PureX Try.prog 36 #[wv x] (rt (bb (p))), PureX Try.prog 36 #[wv y] (rt (bb (q))), (p == q) = false, PureX Try.prog 37 #[wv z] (rt (tp [wv zz, bb (r)]))]) := by kernel_rfl
theorem rmul_raws5 (x y z e0 e1 e2 e3 e4 e5 e6 e7 f0 f1 f2 f3 f4 f5 f6 f7 d0 d1 d2 d3 d4 d5 d6 d7 d8 d9 d10 d11 d12 d13 d14 d15 : Nat) (p q : Bool) : runA Try.prog 21 #[wv x, wv y] [n, n, n, n, n, n, n, f, n, n, n, n, n, f, n, n, n, n, n, f, n, n, n, n, n, f, n, n, n, n, n, f, n, n, n, n, n, t, n, n, n, n, n, n, n, n, n, n, n, t, n, n] [(34, rt (D8 e0 e1 e2 e3 e4 e5 e6 e7)), (34, rt (D8 f0 f1 f2 f3 f4 f5 f6 f7)), (33, rt (D16 d0 d1 d2 d3 d4 d5 d6 d7 d8 d9 d10 d11 d12 d13 d14 d15)), (35, rt (wv z)), (36, rt (bb p)), (36, rt (bb q))] =
    some (rt (tp [wv z, bb true]), [PureX Try.prog 34 #[wv x] (rt (D8 e0 e1 e2 e3 e4 e5 e6 e7)), PureX Try.prog 34 #[wv y] (rt (D8 f0 f1 f2 f3 f4 f5 f6 f7)), PureX Try.prog 33 #[D8 e0 e1 e2 e3 e4 e5 e6 e7, D8 f0 f1 f2 f3 f4 f5 f6 f7] (rt (D16 d0 d1 d2 d3 d4 d5 d6 d7 d8 d9 d10 d11 d12 d13 d14 d15)), (decide (Int.ofNat 0 < Int.ofNat d8)) = false, (decide (Int.ofNat 0 < Int.ofNat d9)) = false, (decide (Int.ofNat 0 < Int.ofNat d10)) = false, (decide (Int.ofNat 0 < Int.ofNat d11)) = false, (decide (Int.ofNat 0 < Int.ofNat d12)) = false, (decide (Int.ofNat 0 < Int.ofNat d13)) = true, PureX Try.prog 35 #[D8 d0 d1 d2 d3 d4 d5 d6 d7] (rt (wv z)), PureX Try.prog 36 #[wv x] (rt (bb p)), PureX Try.prog 36 #[wv y] (rt (bb q)), (p == q) = true]) := by kernel_rfl
theorem rmul_rawd5 (x y z zz e0 e1 e2 e3 e4 e5 e6 e7 f0 f1 f2 f3 f4 f5 f6 f7 d0 d1 d2 d3 d4 d5 d6 d7 d8 d9 d10 d11 d12 d13 d14 d15 : Nat) (p q r : Bool) : runA Try.prog 21 #[wv x, wv y] [n, n, n, n, n, n, n, f, n, n, n, n, n, f, n, n, n, n, n, f, n, n, n, n, n, f, n, n, n, n, n, f, n, n, n, n, n, t, n, n, n, n, n, n, n, n, n, n, n, f, n, n, n, n, n] [(34, rt (D8 e0 e1 e2 e3 e4 e5 e6 e7)), (34, rt (D8 f0 f1 f2 f3 f4 f5 f6 f7)), (33, rt (D16 d0 d1 d2 d3 d4 d5 d6 d7 d8 d9 d10 d11 d12 d13 d14 d15)), (35, rt (wv z)), (36, rt (bb (p))), (36, rt (bb (q))), (37, rt (tp [wv zz, bb (r)]))] =
    some (rt (tp [wv zz, bb (true)]), [PureX Try.prog 34 #[wv x] (rt (D8 e0 e1 e2 e3 e4 e5 e6 e7)), PureX Try.prog 34 #[wv y] (rt (D8 f0 f1 f2 f3 f4 f5 f6 f7)), PureX Try.prog 33 #[D8 e0 e1 e2 e3 e4 e5 e6 e7, D8 f0 f1 f2 f3 f4 f5 f6 f7] (rt (D16 d0 d1 d2 d3 d4 d5 d6 d7 d8 d9 d10 d11 d12 d13 d14 d15)), (decide (Int.ofNat 0 < Int.ofNat d8)) = false, (decide (Int.ofNat 0 < Int.ofNat d9)) = false, (decide (Int.ofNat 0 < Int.ofNat d10)) = false, (decide (Int.ofNat 0 < Int.ofNat d11)) = false, (decide (Int.ofNat 0 < Int.ofNat d12)) = false, (decide (Int.ofNat 0 < Int.ofNat d13)) = true, PureX Try.prog 35 #[D8 d0 d1 d2 d3 d4 d5 d6 d7] (rt (wv z)), PureX Try.prog 36 #[wv x] (rt (bb (p))), PureX Try.prog 36 #[wv y] (rt (bb (q))), (p == q) = false, PureX Try.prog 37 #[wv z] (rt (tp [wv zz, bb (r)]))]) := by kernel_rfl
theorem rmul_raws6 (x y z e0 e1 e2 e3 e4 e5 e6 e7 f0 f1 f2 f3 f4 f5 f6 f7 d0 d1 d2 d3 d4 d5 d6 d7 d8 d9 d10 d11 d12 d13 d14 d15 : Nat) (p q : Bool) : runA Try.prog 21 #[wv x, wv y] [n, n, n, n, n, n, n, f, n, n, n, n, n, f, n, n, n, n, n, f, n, n, n, n, n, f, n, n, n, n, n, f, n, n, n, n, n, f, n, n, n, n, n, t, n, n, n, n, n, t, n, n] [(34, rt (D8 e0 e1 e2 e3 e4 e5 e6 e7)), (34, rt (D8 f0 f1 f2 f3 f4 f5 f6 f7)), (33, rt (D16 d0 d1 d2 d3 d4 d5 d6 d7 d8 d9 d10 d11 d12 d13 d14 d15)), (35, rt (wv z)), (36, rt (bb p)), (36, rt (bb q))] =
    some (rt (tp [wv z, bb true]), [PureX Try.prog 34 #[wv x] (rt (D8 e0 e1 e2 e3 e4 e5 e6 e7)), PureX Try.prog 34 #[wv y] (rt (D8 f0 f1 f2 f3 f4 f5 f6 f7)), PureX Try.prog 33 #[D8 e0 e1 e2 e3 e4 e5 e6 e7, D8 f0 f1 f2 f3 f4 f5 f6 f7] (rt (D16 d0 d1 d2 d3 d4 d5 d6 d7 d8 d9 d10 d11 d12 d13 d14 d15)), (decide (Int.ofNat 0 < Int.ofNat d8)) = false, (decide (Int.ofNat 0 < Int.ofNat d9)) = false, (decide (Int.ofNat 0 < Int.ofNat d10)) = false, (decide (Int.ofNat 0 < Int.ofNat d11)) = false, (decide (Int.ofNat 0 < Int.ofNat d12)) = false, (decide (Int.ofNat 0 < Int.ofNat d13)) = false, (decide (Int.ofNat 0 < Int.ofNat d14)) = true, PureX Try.prog 35 #[D8 d0 d1 d2 d3 d4 d5 d6 d7] (rt (wv z)), PureX Try.prog 36 #[wv x] (rt (bb p)), PureX Try.prog 36 #[wv y] (rt (bb q)), (p == q) = true]) := by kernel_rfl
theorem rmul_rawd6 (x y z zz e0 e1 e2 e3 e4 e5 e6 e7 f0 f1 f2 f3 f4 f5 f6 f7 d0 d1 d2 d3 d4 d5 d6 d7 d8 d9 d10 d11 d12 d13 d14 d15 : Nat) (p q r : Bool) : runA Try.prog 21 #[wv x, wv y] [n, n, n, n, n, n, n, f, n, n, n, n, n, f, n, n, n, n, n, f, n, n, n, n, n, f, n, n, n, n, n, f, n, n, n, n, n, f, n, n, n, n, n, t, n, n, n, n, n, f, n, n, n, n, n] [(34, rt (D8 e0 e1 e2 e3 e4 e5 e6 e7)), (34, rt (D8 f0 f1 f2 f3 f4 f5 f6 f7)), (33, rt (D16 d0 d1 d2 d3 d4 d5 d6 d7 d8 d9 d10 d11 d12 d13 d14 d15)), (35, rt (wv z)), (36, rt (bb (p))), (36, rt (bb (q))), (37, rt (tp [wv zz, bb (r)]))] =
    some (rt (tp [wv zz, bb (true)]), [PureX Try.prog 34 #[wv x] (rt (D8 e0 e1 e2 e3 e4 e5 e6 e7)), PureX Try.prog 34 #[wv y] (rt (D8 f0 f1 f2 f3 f4 f5 f6 f7)), PureX Try.prog 33 #[D8 e0 e1 e2 e3 e4 e5 e6 e7, D8 f0 f1 f2 f3 f4 f5 f6 f7] (rt (D16 d0 d1 d2 d3 d4 d5 d6 d7 d8 d9 d10 d11 d12 d13 d14 d15)), (decide (Int.ofNat 0 < Int.ofNat d8)) = false, (decide (Int.ofNat 0 < Int.ofNat d9)) = false, (decide (Int.ofNat 0 < Int.ofNat d10)) = false, (decide (Int.ofNat 0 < Int.ofNat d11)) = false, (decide (Int.ofNat 0 < Int.ofNat d12)) = false, (decide (Int.ofNat 0 < Int.ofNat d13)) = false, (decide (Int.ofNat 0 < Int.ofNat d14)) = true, PureX Try.prog 35 #[D8 d0 d1 d2 d3 d4 d5 d6 d7] (rt (wv z)), PureX Try.prog 36 #[wv x] (rt (bb (p))), PureX Try.prog 36 #[wv y] (rt (bb (q))), (p == q) = false, PureX Try.prog 37 #[wv z] (rt (tp [wv zz, bb (r)]))]) := by kernel_rfl
theorem rmul_raws7 (x y z e0 e1 e2 e3 e4 e5 e6 e7 f0 f1 f2 f3 f4 f5 f6 f7 d0 d1 d2 d3 d4 d5 d6 d7 d8 d9 d10 d11 d12 d13 d14 d15 : Nat) (p q : Bool) : runA Try.prog 21 #[wv x, wv y] [n, n, n, n, n, n, n, f, n, n, n, n, n, f, n, n, n, n, n, f, n, n, n, n, n, f, n, n, n, n, n, f, n, n, n, n, n, f, n, n, n, n, n, f, n, n, n, n, n, t, t, n] [(34, rt (D8 e0 e1 e2 e3 e4 e5 e6 e7)), (34, rt (D8 f0 f1 f2 f3 f4 f5 f6 f7)), (33, rt (D16 d0 d1 d2 d3 d4 d5 d6 d7 d8 d9 d10 d11 d12 d13 d14 d15)), (35, rt (wv z)), (36, rt (bb p)), (36, rt (bb q))] =
    some (rt (tp [wv z, bb true]), [PureX Try.prog 34 #[wv x] (rt (D8 e0 e1 e2 e3 e4 e5 e6 e7)), PureX Try.prog 34 #[wv y] (rt (D8 f0 f1 f2 f3 f4 f5 f6 f7)), PureX Try.prog 33 #[D8 e0 e1 e2 e3 e4 e5 e6 e7, D8 f0 f1 f2 f3 f4 f5 f6 f7] (rt (D16 d0 d1 d2 d3 d4 d5 d6 d7 d8 d9 d10 d11 d12 d13 d14 d15)), (decide (Int.ofNat 0 < Int.ofNat d8)) = false, (decide (Int.ofNat 0 < Int.ofNat d9)) = false, (decide (Int.ofNat 0 < Int.ofNat d10)) = false, (decide (Int.ofNat 0 < Int.ofNat d11)) = false, (decide (Int.ofNat 0 < Int.ofNat d12)) = false, (decide (Int.ofNat 0 < Int.ofNat d13)) = false, (decide (Int.ofNat 0 < Int.ofNat d14)) = false, PureX Try.prog 35 #[D8 d0 d1 d2 d3 d4 d5 d6 d7] (rt (wv z)), PureX Try.prog 36 #[wv x] (rt (bb p)), PureX Try.prog 36 #[wv y] (rt (bb q)), (p == q) = true, (decide (Int.ofNat 0 < Int.ofNat d15)) = true]) := by kernel_rfl
theorem rmul_rawd7 (x y z zz e0 e1 e2 e3 e4 e5 e6 e7 f0 f1 f2 f3 f4 f5 f6 f7 d0 d1 d2 d3 d4 d5 d6 d7 d8 d9 d10 d11 d12 d13 d14 d15 : Nat) (p q r : Bool) : runA Try.prog 21 #[wv x, wv y] [n, n, n, n, n, n, n, f, n, n, n, n, n, f, n, n, n, n, n, f, n, n, n, n, n, f, n, n, n, n, n, f, n, n, n, n, n, f, n, n, n, n, n, f, n, n, n, n, n, f, t, n, n, n, n] [(34, rt (D8 e0 e1 e2 e3 e4 e5 e6 e7)), (34, rt (D8 f0 f1 f2 f3 f4 f5 f6 f7)), (33, rt (D16 d0 d1 d2 d3 d4 d5 d6 d7 d8 d9 d10 d11 d12 d13 d14 d15)), (35, rt (wv z)), (36, rt (bb (p))), (36, rt (bb (q))), (37, rt (tp [wv zz, bb (r)]))] =
    some (rt (tp [wv zz, bb (true)]), [PureX Try.prog 34 #[wv x] (rt (D8 e0 e1 e2 e3 e4 e5 e6 e7)), PureX Try.prog 34 #[wv y] (rt (D8 f0 f1 f2 f3 f4 f5 f6 f7)), PureX Try.prog 33 #[D8 e0 e1 e2 e3 e4 e5 e6 e7, D8 f0 f1 f2 f3 f4 f5 f6 f7] (rt (D16 d0 d1 d2 d3 d4 d5 d6 d7 d8 d9 d10 d11 d12 d13 d14 d15)), (decide (Int.ofNat 0 < Int.ofNat d8)) = false, (decide (Int.ofNat 0 < Int.ofNat d9)) = false, (decide (Int.ofNat 0 < Int.ofNat d10)) = false, (decide (Int.ofNat 0 < Int.ofNat d11)) = false, (decide (Int.ofNat 0 < Int.ofNat d12)) = false, (decide (Int.ofNat 0 < Int.ofNat d13)) = false, (decide (Int.ofNat 0 < Int.ofNat d14)) = false, PureX Try.prog 35 #[D8 d0 d1 d2 d3 d4 d5 d6 d7] (rt (wv z)), PureX Try.prog 36 #[wv x] (rt (bb (p))), PureX Try.prog 36 #[wv y] (rt (bb (q))), (p == q) = false, PureX Try.prog 37 #[wv z] (rt (tp [wv zz, bb (r)])), (decide (Int.ofNat 0 < Int.ofNat d15)) = true]) := by kernel_rfl

end Go.Proofs.Ytpllklojcjhjaaa

/- The document's own Mul, as integers. -/
namespace Go.Proofs.Ytpllklojcjhjaaa
open Go Go.RowKit
set_option linter.unusedSimpArgs false
set_option linter.unusedVariables false

theorem rsize_z {x : Int} (h : inR x) : ∃ e0 e1 e2 e3 e4 e5 e6 e7, e0 < 4294967296 ∧ e1 < 4294967296 ∧ e2 < 4294967296 ∧ e3 < 4294967296 ∧ e4 < 4294967296 ∧ e5 < 4294967296 ∧ e6 < 4294967296 ∧ e7 < 4294967296 ∧ e8 e0 e1 e2 e3 e4 e5 e6 e7 = x.natAbs ∧ PureX Try.prog 34 #[wz x] (rt (D8 e0 e1 e2 e3 e4 e5 e6 e7)) := by
  obtain ⟨e0, e1, e2, e3, e4, e5, e6, e7, h0, h1, h2, h3, h4, h5, h6, h7, he, hp⟩ := digits_x (siz (nz x))
  refine ⟨e0, e1, e2, e3, e4, e5, e6, e7, h0, h1, h2, h3, h4, h5, h6, h7, by rw [he, siz_z h], ?_⟩
  have l := low_x (nz x)
  unfold siz at hp
  generalize ng (nz x) = b at l hp
  cases b
  · exact runA_pure mix (rsize_raw2 (nz x) e0 e1 e2 e3 e4 e5 e6 e7 false) ⟨l, rfl, hp, trivial⟩ rfl rfl
  · exact runA_pure mix (rsize_raw1 (nz x) (dif 0 (nz x)) e0 e1 e2 e3 e4 e5 e6 e7 true (subO 0 (nz x))) ⟨l, rfl, rneg_x (nz x), hp, trivial⟩ rfl rfl
def fn8 (e0 e1 e2 e3 e4 e5 e6 e7 : Nat) : Nat → Nat
  | 0 => e0
  | 1 => e1
  | 2 => e2
  | 3 => e3
  | 4 => e4
  | 5 => e5
  | 6 => e6
  | 7 => e7
  | _ => 0
theorem fn8_digs {e0 e1 e2 e3 e4 e5 e6 e7 : Nat} (h0 : e0 < 4294967296) (h1 : e1 < 4294967296) (h2 : e2 < 4294967296) (h3 : e3 < 4294967296) (h4 : e4 < 4294967296) (h5 : e5 < 4294967296) (h6 : e6 < 4294967296) (h7 : e7 < 4294967296) : Digs (fn8 e0 e1 e2 e3 e4 e5 e6 e7) := by
  intro i
  unfold fn8
  split <;> first | assumption | decide
theorem times_c {e0 e1 e2 e3 e4 e5 e6 e7 f0 f1 f2 f3 f4 f5 f6 f7 : Nat} (h0 : e0 < 4294967296) (h1 : e1 < 4294967296) (h2 : e2 < 4294967296) (h3 : e3 < 4294967296) (h4 : e4 < 4294967296) (h5 : e5 < 4294967296) (h6 : e6 < 4294967296) (h7 : e7 < 4294967296) (g0 : f0 < 4294967296) (g1 : f1 < 4294967296) (g2 : f2 < 4294967296) (g3 : f3 < 4294967296) (g4 : f4 < 4294967296) (g5 : f5 < 4294967296) (g6 : f6 < 4294967296) (g7 : f7 < 4294967296) :
    ∃ d0 d1 d2 d3 d4 d5 d6 d7 d8 d9 d10 d11 d12 d13 d14 d15, d0 < 4294967296 ∧ d1 < 4294967296 ∧ d2 < 4294967296 ∧ d3 < 4294967296 ∧ d4 < 4294967296 ∧ d5 < 4294967296 ∧ d6 < 4294967296 ∧ d7 < 4294967296 ∧ d8 < 4294967296 ∧ d9 < 4294967296 ∧ d10 < 4294967296 ∧ d11 < 4294967296 ∧ d12 < 4294967296 ∧ d13 < 4294967296 ∧ d14 < 4294967296 ∧ d15 < 4294967296 ∧ e8 d0 d1 d2 d3 d4 d5 d6 d7 + Mw * e8 d8 d9 d10 d11 d12 d13 d14 d15 = e8 e0 e1 e2 e3 e4 e5 e6 e7 * e8 f0 f1 f2 f3 f4 f5 f6 f7 ∧ PureX Try.prog 33 #[D8 e0 e1 e2 e3 e4 e5 e6 e7, D8 f0 f1 f2 f3 f4 f5 f6 f7] (rt (D16 d0 d1 d2 d3 d4 d5 d6 d7 d8 d9 d10 d11 d12 d13 d14 d15)) := by
  have ha := fn8_digs h0 h1 h2 h3 h4 h5 h6 h7
  have hb := fn8_digs g0 g1 g2 g3 g4 g5 g6 g7
  have hv := timesR_val (fn8 e0 e1 e2 e3 e4 e5 e6 e7) (fn8 f0 f1 f2 f3 f4 f5 f6 f7)
  have hd := timesR_digs ha hb
  have hr : PureX Try.prog 33 #[D8 e0 e1 e2 e3 e4 e5 e6 e7, D8 f0 f1 f2 f3 f4 f5 f6 f7] (rt (D16 (timesR (fn8 e0 e1 e2 e3 e4 e5 e6 e7) (fn8 f0 f1 f2 f3 f4 f5 f6 f7) 0) (timesR (fn8 e0 e1 e2 e3 e4 e5 e6 e7) (fn8 f0 f1 f2 f3 f4 f5 f6 f7) 1) (timesR (fn8 e0 e1 e2 e3 e4 e5 e6 e7) (fn8 f0 f1 f2 f3 f4 f5 f6 f7) 2) (timesR (fn8 e0 e1 e2 e3 e4 e5 e6 e7) (fn8 f0 f1 f2 f3 f4 f5 f6 f7) 3) (timesR (fn8 e0 e1 e2 e3 e4 e5 e6 e7) (fn8 f0 f1 f2 f3 f4 f5 f6 f7) 4) (timesR (fn8 e0 e1 e2 e3 e4 e5 e6 e7) (fn8 f0 f1 f2 f3 f4 f5 f6 f7) 5) (timesR (fn8 e0 e1 e2 e3 e4 e5 e6 e7) (fn8 f0 f1 f2 f3 f4 f5 f6 f7) 6) (timesR (fn8 e0 e1 e2 e3 e4 e5 e6 e7) (fn8 f0 f1 f2 f3 f4 f5 f6 f7) 7) (timesR (fn8 e0 e1 e2 e3 e4 e5 e6 e7) (fn8 f0 f1 f2 f3 f4 f5 f6 f7) 8) (timesR (fn8 e0 e1 e2 e3 e4 e5 e6 e7) (fn8 f0 f1 f2 f3 f4 f5 f6 f7) 9) (timesR (fn8 e0 e1 e2 e3 e4 e5 e6 e7) (fn8 f0 f1 f2 f3 f4 f5 f6 f7) 10) (timesR (fn8 e0 e1 e2 e3 e4 e5 e6 e7) (fn8 f0 f1 f2 f3 f4 f5 f6 f7) 11) (timesR (fn8 e0 e1 e2 e3 e4 e5 e6 e7) (fn8 f0 f1 f2 f3 f4 f5 f6 f7) 12) (timesR (fn8 e0 e1 e2 e3 e4 e5 e6 e7) (fn8 f0 f1 f2 f3 f4 f5 f6 f7) 13) (timesR (fn8 e0 e1 e2 e3 e4 e5 e6 e7) (fn8 f0 f1 f2 f3 f4 f5 f6 f7) 14) (timesR (fn8 e0 e1 e2 e3 e4 e5 e6 e7) (fn8 f0 f1 f2 f3 f4 f5 f6 f7) 15))) := fun w _ => (times_r _ _ ha hb w).mono (fun e w' h => h)
  have k : ∀ a : Nat → Nat, dval a = e8 (a 0) (a 1) (a 2) (a 3) (a 4) (a 5) (a 6) (a 7) := by
    intro a
    unfold dval e8
    simp only [nm]
    generalize a 0 = a0, a 1 = a1, a 2 = a2, a 3 = a3, a 4 = a4, a 5 = a5, a 6 = a6, a 7 = a7
    omega
  have k2 : ∀ a : Nat → Nat, nm 4294967296 a 16 = e8 (a 0) (a 1) (a 2) (a 3) (a 4) (a 5) (a 6) (a 7) + Mw * e8 (a 8) (a 9) (a 10) (a 11) (a 12) (a 13) (a 14) (a 15) := by
    intro a
    rw [← k]
    unfold dval e8
    simp only [nm]
    generalize a 0 + a 1 = zz
    generalize a 8 = a8, a 9 = a9, a 10 = a10, a 11 = a11, a 12 = a12, a 13 = a13, a 14 = a14, a 15 = a15
    simp only [Nat.mul_add, ← Nat.mul_assoc, Mw]
    omega
  rw [k2, k, k] at hv
  exact ⟨_, _, _, _, _, _, _, _, _, _, _, _, _, _, _, _, hd 0, hd 1, hd 2, hd 3, hd 4, hd 5, hd 6, hd 7, hd 8, hd 9, hd 10, hd 11, hd 12, hd 13, hd 14, hd 15, hv, hr⟩

theorem e8_lt {d0 d1 d2 d3 d4 d5 d6 d7 : Nat} (h0 : d0 < 4294967296) (h1 : d1 < 4294967296) (h2 : d2 < 4294967296) (h3 : d3 < 4294967296) (h4 : d4 < 4294967296) (h5 : d5 < 4294967296) (h6 : d6 < 4294967296) (h7 : d7 < 4294967296) : e8 d0 d1 d2 d3 d4 d5 d6 d7 < Mw := by
  unfold e8
  simp only [Mw]
  omega
theorem rmul_z {x y : Int} (hx : inR x) (hy : inR y) : PureX Try.prog 21 #[wz x, wz y] (rt (tp [wz (x * y), bb (decide (¬ inR (x * y)))])) := by
  obtain ⟨e0, e1, e2, e3, e4, e5, e6, e7, he0, he1, he2, he3, he4, he5, he6, he7, ee, pe⟩ := rsize_z hx
  obtain ⟨f0, f1, f2, f3, f4, f5, f6, f7, hf0, hf1, hf2, hf3, hf4, hf5, hf6, hf7, ef, pf⟩ := rsize_z hy
  obtain ⟨d0, d1, d2, d3, d4, d5, d6, d7, d8, d9, d10, d11, d12, d13, d14, d15, hd0, hd1, hd2, hd3, hd4, hd5, hd6, hd7, hd8, hd9, hd10, hd11, hd12, hd13, hd14, hd15, ed, pd⟩ := times_c he0 he1 he2 he3 he4 he5 he6 he7 hf0 hf1 hf2 hf3 hf4 hf5 hf6 hf7
  rw [ee, ef] at ed
  obtain ⟨P, hP⟩ : ∃ P, P = x.natAbs * y.natAbs := ⟨_, rfl⟩
  rw [← hP] at ed
  have hc := mul_case hP
  have pw := wide_c hd0 hd1 hd2 hd3 hd4 hd5 hd6 hd7
  have hlo : e8 d0 d1 d2 d3 d4 d5 d6 d7 < Mw := e8_lt hd0 hd1 hd2 hd3 hd4 hd5 hd6 hd7
  have hhi : e8 d8 d9 d10 d11 d12 d13 d14 d15 = 0 ↔ d8 = 0 ∧ d9 = 0 ∧ d10 = 0 ∧ d11 = 0 ∧ d12 = 0 ∧ d13 = 0 ∧ d14 = 0 ∧ d15 = 0 := by
    unfold e8
    omega
  generalize e8 d8 d9 d10 d11 d12 d13 d14 d15 = hi at ed hhi
  generalize e8 d0 d1 d2 d3 d4 d5 d6 d7 = lo at ed hlo pw
  have hz : wv lo = wv P := wv_mod (by rw [← ed, Nat.add_mul_mod_self_left])
  rw [hz] at pw
  have hbig : hi = 0 ↔ P < Mw := by
    constructor
    · rintro rfl
      omega
    · intro h
      rcases Nat.eq_zero_or_pos hi with h0 | h0
      · exact h0
      · have := Nat.mul_le_mul_left Mw h0
        omega
  have l1 := low_x (nz x)
  have l2 := low_x (nz y)
  have l3 := low_x P
  have he := eqv_dec P 0
  rw [Nat.zero_mod] at he
  have n3 := rneg_x P
  have w3 := (dif_neg P).1
  rw [w3] at n3
  have l4 := low_x (nz (-(P : Int)))
  rw [ng_z hx] at l1
  rw [ng_z hy] at l2
  clear ed ee ef hP hx hy hz w3 he0 hf0 he1 hf1 he2 hf2 he3 hf3 he4 hf4 he5 hf5 he6 hf6 he7 hf7
  generalize decide (x < 0) = A at l1 hc
  generalize decide (y < 0) = B at l2 hc
  by_cases hAB : A = B
  · have hv := hc.1 hAB
    rw [hv, ← wz_nat]
    have hq : (A == B) = true := by rw [hAB]; exact beq_self_eq_true B
    have big : hi ≠ 0 → decide (¬ inR (P : Int)) = true := by
      intro hn
      have : ¬ P < Mw := fun c => hn (hbig.2 c)
      rw [decide_eq_true_eq]
      unfold inR
      simp only [Mw] at this
      omega
    by_cases c8 : 0 < d8
    · rw [big (fun c => by have := (hhi.1 c); omega)]
      exact runA_pure mix (rmul_raws0 (nz x) (nz y) P e0 e1 e2 e3 e4 e5 e6 e7 f0 f1 f2 f3 f4 f5 f6 f7 d0 d1 d2 d3 d4 d5 d6 d7 d8 d9 d10 d11 d12 d13 d14 d15 A B) ⟨pe, pf, pd, lt_t c8, pw, l1, l2, hq, trivial⟩ rfl rfl
    by_cases c9 : 0 < d9
    · rw [big (fun c => by have := (hhi.1 c); omega)]
      exact runA_pure mix (rmul_raws1 (nz x) (nz y) P e0 e1 e2 e3 e4 e5 e6 e7 f0 f1 f2 f3 f4 f5 f6 f7 d0 d1 d2 d3 d4 d5 d6 d7 d8 d9 d10 d11 d12 d13 d14 d15 A B) ⟨pe, pf, pd, lt_f c8, lt_t c9, pw, l1, l2, hq, trivial⟩ rfl rfl
    by_cases c10 : 0 < d10
    · rw [big (fun c => by have := (hhi.1 c); omega)]
      exact runA_pure mix (rmul_raws2 (nz x) (nz y) P e0 e1 e2 e3 e4 e5 e6 e7 f0 f1 f2 f3 f4 f5 f6 f7 d0 d1 d2 d3 d4 d5 d6 d7 d8 d9 d10 d11 d12 d13 d14 d15 A B) ⟨pe, pf, pd, lt_f c8, lt_f c9, lt_t c10, pw, l1, l2, hq, trivial⟩ rfl rfl
    by_cases c11 : 0 < d11
    · rw [big (fun c => by have := (hhi.1 c); omega)]
      exact runA_pure mix (rmul_raws3 (nz x) (nz y) P e0 e1 e2 e3 e4 e5 e6 e7 f0 f1 f2 f3 f4 f5 f6 f7 d0 d1 d2 d3 d4 d5 d6 d7 d8 d9 d10 d11 d12 d13 d14 d15 A B) ⟨pe, pf, pd, lt_f c8, lt_f c9, lt_f c10, lt_t c11, pw, l1, l2, hq, trivial⟩ rfl rfl
    by_cases c12 : 0 < d12
    · rw [big (fun c => by have := (hhi.1 c); omega)]
      exact runA_pure mix (rmul_raws4 (nz x) (nz y) P e0 e1 e2 e3 e4 e5 e6 e7 f0 f1 f2 f3 f4 f5 f6 f7 d0 d1 d2 d3 d4 d5 d6 d7 d8 d9 d10 d11 d12 d13 d14 d15 A B) ⟨pe, pf, pd, lt_f c8, lt_f c9, lt_f c10, lt_f c11, lt_t c12, pw, l1, l2, hq, trivial⟩ rfl rfl
    by_cases c13 : 0 < d13
    · rw [big (fun c => by have := (hhi.1 c); omega)]
      exact runA_pure mix (rmul_raws5 (nz x) (nz y) P e0 e1 e2 e3 e4 e5 e6 e7 f0 f1 f2 f3 f4 f5 f6 f7 d0 d1 d2 d3 d4 d5 d6 d7 d8 d9 d10 d11 d12 d13 d14 d15 A B) ⟨pe, pf, pd, lt_f c8, lt_f c9, lt_f c10, lt_f c11, lt_f c12, lt_t c13, pw, l1, l2, hq, trivial⟩ rfl rfl
    by_cases c14 : 0 < d14
    · rw [big (fun c => by have := (hhi.1 c); omega)]
      exact runA_pure mix (rmul_raws6 (nz x) (nz y) P e0 e1 e2 e3 e4 e5 e6 e7 f0 f1 f2 f3 f4 f5 f6 f7 d0 d1 d2 d3 d4 d5 d6 d7 d8 d9 d10 d11 d12 d13 d14 d15 A B) ⟨pe, pf, pd, lt_f c8, lt_f c9, lt_f c10, lt_f c11, lt_f c12, lt_f c13, lt_t c14, pw, l1, l2, hq, trivial⟩ rfl rfl
    by_cases c15 : 0 < d15
    · rw [big (fun c => by have := (hhi.1 c); omega)]
      exact runA_pure mix (rmul_raws7 (nz x) (nz y) P e0 e1 e2 e3 e4 e5 e6 e7 f0 f1 f2 f3 f4 f5 f6 f7 d0 d1 d2 d3 d4 d5 d6 d7 d8 d9 d10 d11 d12 d13 d14 d15 A B) ⟨pe, pf, pd, lt_f c8, lt_f c9, lt_f c10, lt_f c11, lt_f c12, lt_f c13, lt_f c14, pw, l1, l2, hq, lt_t c15, trivial⟩ rfl rfl
    have hz : hi = 0 := hhi.2 (by omega)
    have hlt := hbig.1 hz
    have hr : decide (¬ inR (P : Int)) = ng P := by
      unfold ng
      rw [Nat.mod_eq_of_lt hlt, decide_eq_decide]
      unfold inR
      simp only [Mw] at hlt
      omega
    rw [hr]
    exact runA_pure mix (rmul_raws8 (nz x) (nz y) P e0 e1 e2 e3 e4 e5 e6 e7 f0 f1 f2 f3 f4 f5 f6 f7 d0 d1 d2 d3 d4 d5 d6 d7 d8 d9 d10 d11 d12 d13 d14 d15 A B (ng P)) ⟨pe, pf, pd, lt_f c8, lt_f c9, lt_f c10, lt_f c11, lt_f c12, lt_f c13, lt_f c14, pw, l1, l2, hq, lt_f c15, l3, trivial⟩ rfl rfl
  · have hv := hc.2 hAB
    rw [hv]
    have hq : (A == B) = false := by simpa using hAB
    have big : hi ≠ 0 → decide (¬ inR (-(P : Int))) = true := by
      intro hn
      have : ¬ P < Mw := fun c => hn (hbig.2 c)
      rw [decide_eq_true_eq]
      unfold inR
      simp only [Mw] at this
      omega
    by_cases c8 : 0 < d8
    · rw [big (fun c => by have := (hhi.1 c); omega)]
      exact runA_pure mix (rmul_rawd0 (nz x) (nz y) P (nz (-(P : Int))) e0 e1 e2 e3 e4 e5 e6 e7 f0 f1 f2 f3 f4 f5 f6 f7 d0 d1 d2 d3 d4 d5 d6 d7 d8 d9 d10 d11 d12 d13 d14 d15 A B (subO 0 P)) ⟨pe, pf, pd, lt_t c8, pw, l1, l2, hq, n3, trivial⟩ rfl rfl
    by_cases c9 : 0 < d9
    · rw [big (fun c => by have := (hhi.1 c); omega)]
      exact runA_pure mix (rmul_rawd1 (nz x) (nz y) P (nz (-(P : Int))) e0 e1 e2 e3 e4 e5 e6 e7 f0 f1 f2 f3 f4 f5 f6 f7 d0 d1 d2 d3 d4 d5 d6 d7 d8 d9 d10 d11 d12 d13 d14 d15 A B (subO 0 P)) ⟨pe, pf, pd, lt_f c8, lt_t c9, pw, l1, l2, hq, n3, trivial⟩ rfl rfl
    by_cases c10 : 0 < d10
    · rw [big (fun c => by have := (hhi.1 c); omega)]
      exact runA_pure mix (rmul_rawd2 (nz x) (nz y) P (nz (-(P : Int))) e0 e1 e2 e3 e4 e5 e6 e7 f0 f1 f2 f3 f4 f5 f6 f7 d0 d1 d2 d3 d4 d5 d6 d7 d8 d9 d10 d11 d12 d13 d14 d15 A B (subO 0 P)) ⟨pe, pf, pd, lt_f c8, lt_f c9, lt_t c10, pw, l1, l2, hq, n3, trivial⟩ rfl rfl
    by_cases c11 : 0 < d11
    · rw [big (fun c => by have := (hhi.1 c); omega)]
      exact runA_pure mix (rmul_rawd3 (nz x) (nz y) P (nz (-(P : Int))) e0 e1 e2 e3 e4 e5 e6 e7 f0 f1 f2 f3 f4 f5 f6 f7 d0 d1 d2 d3 d4 d5 d6 d7 d8 d9 d10 d11 d12 d13 d14 d15 A B (subO 0 P)) ⟨pe, pf, pd, lt_f c8, lt_f c9, lt_f c10, lt_t c11, pw, l1, l2, hq, n3, trivial⟩ rfl rfl
    by_cases c12 : 0 < d12
    · rw [big (fun c => by have := (hhi.1 c); omega)]
      exact runA_pure mix (rmul_rawd4 (nz x) (nz y) P (nz (-(P : Int))) e0 e1 e2 e3 e4 e5 e6 e7 f0 f1 f2 f3 f4 f5 f6 f7 d0 d1 d2 d3 d4 d5 d6 d7 d8 d9 d10 d11 d12 d13 d14 d15 A B (subO 0 P)) ⟨pe, pf, pd, lt_f c8, lt_f c9, lt_f c10, lt_f c11, lt_t c12, pw, l1, l2, hq, n3, trivial⟩ rfl rfl
    by_cases c13 : 0 < d13
    · rw [big (fun c => by have := (hhi.1 c); omega)]
      exact runA_pure mix (rmul_rawd5 (nz x) (nz y) P (nz (-(P : Int))) e0 e1 e2 e3 e4 e5 e6 e7 f0 f1 f2 f3 f4 f5 f6 f7 d0 d1 d2 d3 d4 d5 d6 d7 d8 d9 d10 d11 d12 d13 d14 d15 A B (subO 0 P)) ⟨pe, pf, pd, lt_f c8, lt_f c9, lt_f c10, lt_f c11, lt_f c12, lt_t c13, pw, l1, l2, hq, n3, trivial⟩ rfl rfl
    by_cases c14 : 0 < d14
    · rw [big (fun c => by have := (hhi.1 c); omega)]
      exact runA_pure mix (rmul_rawd6 (nz x) (nz y) P (nz (-(P : Int))) e0 e1 e2 e3 e4 e5 e6 e7 f0 f1 f2 f3 f4 f5 f6 f7 d0 d1 d2 d3 d4 d5 d6 d7 d8 d9 d10 d11 d12 d13 d14 d15 A B (subO 0 P)) ⟨pe, pf, pd, lt_f c8, lt_f c9, lt_f c10, lt_f c11, lt_f c12, lt_f c13, lt_t c14, pw, l1, l2, hq, n3, trivial⟩ rfl rfl
    by_cases c15 : 0 < d15
    · rw [big (fun c => by have := (hhi.1 c); omega)]
      exact runA_pure mix (rmul_rawd7 (nz x) (nz y) P (nz (-(P : Int))) e0 e1 e2 e3 e4 e5 e6 e7 f0 f1 f2 f3 f4 f5 f6 f7 d0 d1 d2 d3 d4 d5 d6 d7 d8 d9 d10 d11 d12 d13 d14 d15 A B (subO 0 P)) ⟨pe, pf, pd, lt_f c8, lt_f c9, lt_f c10, lt_f c11, lt_f c12, lt_f c13, lt_f c14, pw, l1, l2, hq, n3, lt_t c15, trivial⟩ rfl rfl
    have hz : hi = 0 := hhi.2 (by omega)
    have hlt := hbig.1 hz
    rw [Nat.mod_eq_of_lt hlt] at he
    by_cases hP0 : P = 0
    · have hr : decide (¬ inR (-(P : Int))) = false := by rw [hP0]; decide
      rw [hr]
      rw [decide_eq_true hP0] at he
      exact runA_pure mix (rmul_rawz (nz x) (nz y) P (nz (-(P : Int))) e0 e1 e2 e3 e4 e5 e6 e7 f0 f1 f2 f3 f4 f5 f6 f7 d0 d1 d2 d3 d4 d5 d6 d7 d8 d9 d10 d11 d12 d13 d14 d15 A B (subO 0 P) false) ⟨pe, pf, pd, lt_f c8, lt_f c9, lt_f c10, lt_f c11, lt_f c12, lt_f c13, lt_f c14, pw, l1, l2, hq, n3, lt_f c15, by rw [he]; rfl, trivial⟩ rfl rfl
    · have hr : decide (¬ inR (-(P : Int))) = !(ng (nz (-(P : Int)))) := by
        rw [ng_mz, ← decide_not, decide_eq_decide]
        unfold inR
        simp only [Mw] at hlt ⊢
        omega
      rw [hr]
      rw [decide_eq_false hP0] at he
      exact runA_pure mix (rmul_rawd8 (nz x) (nz y) P (nz (-(P : Int))) e0 e1 e2 e3 e4 e5 e6 e7 f0 f1 f2 f3 f4 f5 f6 f7 d0 d1 d2 d3 d4 d5 d6 d7 d8 d9 d10 d11 d12 d13 d14 d15 A B (subO 0 P) (ng (nz (-(P : Int))))) ⟨pe, pf, pd, lt_f c8, lt_f c9, lt_f c10, lt_f c11, lt_f c12, lt_f c13, lt_f c14, pw, l1, l2, hq, n3, lt_f c15, by rw [he]; rfl, l4, trivial⟩ rfl rfl

end Go.Proofs.Ytpllklojcjhjaaa

/- A division's floor, ceiling, whole. -/
namespace Go.Proofs.Ytpllklojcjhjaaa
open Go Go.RowKit
set_option linter.unusedSimpArgs false
set_option linter.unusedVariables false

/-- A division: times, left, by, below. -/
def DV (a b c : Nat) (s : Bool) : Value := .agg ⟨[u (a % 18446744073709551616), u (a / 18446744073709551616 % 18446744073709551616), u (a / 340282366920938463463374607431768211456 % 18446744073709551616), u (a / 6277101735386680763835789423207666416102355444464034512896 % 18446744073709551616), u (b % 18446744073709551616), u (b / 18446744073709551616 % 18446744073709551616), u (b / 340282366920938463463374607431768211456 % 18446744073709551616), u (b / 6277101735386680763835789423207666416102355444464034512896 % 18446744073709551616), u (c % 18446744073709551616), u (c / 18446744073709551616 % 18446744073709551616), u (c / 340282366920938463463374607431768211456 % 18446744073709551616), u (c / 6277101735386680763835789423207666416102355444464034512896 % 18446744073709551616), bb s]⟩
/-- What a division's whole comes to. -/
def whl (T : Nat) (s far : Bool) : Int := if s = true then -((T : Int) + if far = true then 1 else 0) else (T : Int) + if far = true then 1 else 0
end Go.Proofs.Ytpllklojcjhjaaa

/- The mathematics of signed quotients: sizes divided, signs told beside them. -/
namespace Go.Proofs.Ytpllklojcjhjaaa
open Go Go.RowKit
set_option linter.unusedSimpArgs false
set_option linter.unusedVariables false

/-- The quotient's sign, from the two numbers' signs. -/
def belowI (A B : Int) : Prop := (A < 0 ∧ 0 < B) ∨ (0 < A ∧ B < 0)
instance (A B : Int) : Decidable (belowI A B) := by unfold belowI; infer_instance
/-- The quotient of the sizes, with its sign; one farther from 0 if f. -/
def wholeI (A B : Int) (q : Nat) (f : Bool) : Int := if belowI A B then -((q : Int) + (if f then 1 else 0)) else (q : Int) + (if f then 1 else 0)

theorem sizes_signed {A B : Int} {q r : Nat} (h : A.natAbs = B.natAbs * q + r) : (0 ≤ B → (0 ≤ A → A = B * q + r) ∧ (A ≤ 0 → A = -(B * q) - r)) ∧ (B ≤ 0 → (0 ≤ A → A = -(B * q) + r) ∧ (A ≤ 0 → A = B * q - r)) := by
  have h2 : (A.natAbs : Int) = (B.natAbs : Int) * (q : Int) + (r : Int) := by exact_mod_cast h
  refine ⟨fun hB => ?_, fun hB => ?_⟩
  · have e : (B.natAbs : Int) = B := by omega
    rw [e] at h2
    generalize B * (q : Int) = P at *
    exact ⟨fun hA => by omega, fun hA => by omega⟩
  · have e : (B.natAbs : Int) = -B := by omega
    rw [e, Int.neg_mul] at h2
    generalize B * (q : Int) = P at *
    exact ⟨fun hA => by omega, fun hA => by omega⟩

/-- The rest lies between 0 and b, on b's side. -/
def OnSide (R B : Int) : Prop := (0 ≤ R ∧ R < B) ∨ (B < R ∧ R ≤ 0)

theorem floor_int {A B : Int} {q r : Nat} (hB : B ≠ 0) (h : A.natAbs = B.natAbs * q + r) (hr : r < B.natAbs) :
    OnSide (A - B * wholeI A B q (decide (belowI A B) && !decide (r = 0))) B := by
  obtain ⟨hp, hn⟩ := sizes_signed h
  unfold wholeI
  by_cases hb : belowI A B
  · rw [if_pos hb]
    by_cases h0 : r = 0
    · simp only [hb, h0, decide_true, Bool.not_true, Bool.and_false, Bool.false_eq_true, if_false, Int.add_zero, Int.mul_neg]
      subst h0
      generalize B * (q : Int) = P at *
      unfold OnSide belowI at *
      rcases hb with ⟨h1, h2⟩ | ⟨h1, h2⟩
      · have := (hp (by omega)).2 (by omega); omega
      · have := (hn (by omega)).1 (by omega); omega
    · simp only [hb, h0, decide_true, decide_false, Bool.not_false, Bool.and_true, if_true, Int.mul_neg, Int.mul_add, Int.mul_one]
      generalize B * (q : Int) = P at *
      unfold OnSide belowI at *
      rcases hb with ⟨h1, h2⟩ | ⟨h1, h2⟩
      · have := (hp (by omega)).2 (by omega); omega
      · have := (hn (by omega)).1 (by omega); omega
  · rw [if_neg hb]
    simp only [hb, decide_false, Bool.false_and, Bool.false_eq_true, if_false, Int.add_zero]
    by_cases hA : A = 0
    · have hq : q = 0 ∧ r = 0 := by
        rw [hA] at h
        have hz : B.natAbs * q = 0 := by omega
        rcases Nat.mul_eq_zero.1 hz with hz | hz
        · omega
        · exact ⟨hz, by omega⟩
      rw [hq.1, hA]
      unfold OnSide
      simp
      omega
    · generalize B * (q : Int) = P at *
      unfold OnSide belowI at *
      by_cases hs : 0 < B
      · have := (hp (by omega)).1 (by omega); omega
      · have := (hn (by omega)).2 (by omega); omega

theorem ceil_int {A B : Int} {q r : Nat} (hB : B ≠ 0) (h : A.natAbs = B.natAbs * q + r) (hr : r < B.natAbs) :
    OnSide (B * wholeI A B q (!decide (belowI A B) && !decide (r = 0)) - A) B := by
  obtain ⟨hp, hn⟩ := sizes_signed h
  unfold wholeI
  by_cases hA : A = 0
  · have hq : q = 0 ∧ r = 0 := by
      rw [hA] at h
      have hz : B.natAbs * q = 0 := by omega
      rcases Nat.mul_eq_zero.1 hz with hz | hz
      · omega
      · exact ⟨hz, by omega⟩
    have hb : ¬ belowI A B := by unfold belowI; omega
    rw [if_neg hb, hq.1, hq.2, hA]
    unfold OnSide
    simp
    omega
  · by_cases hb : belowI A B
    · rw [if_pos hb]
      simp only [hb, decide_true, Bool.not_true, Bool.false_and, Bool.false_eq_true, if_false, Int.add_zero, Int.mul_neg]
      generalize B * (q : Int) = P at *
      unfold OnSide belowI at *
      rcases hb with ⟨h1, h2⟩ | ⟨h1, h2⟩
      · have := (hp (by omega)).2 (by omega); omega
      · have := (hn (by omega)).1 (by omega); omega
    · rw [if_neg hb]
      by_cases h0 : r = 0
      · simp only [hb, h0, decide_true, decide_false, Bool.not_true, Bool.and_false, Bool.false_eq_true, if_false, Int.add_zero]
        generalize B * (q : Int) = P at *
        unfold OnSide belowI at *
        by_cases hs : 0 < B
        · have := (hp (by omega)).1 (by omega); omega
        · have := (hn (by omega)).2 (by omega); omega
      · simp only [hb, h0, decide_false, Bool.not_false, Bool.and_true, if_true, Int.mul_add, Int.mul_one]
        generalize B * (q : Int) = P at *
        unfold OnSide belowI at *
        by_cases hs : 0 < B
        · have := (hp (by omega)).1 (by omega); omega
        · have := (hn (by omega)).2 (by omega); omega

/-- The nearest whole number; from the middle away from 0. -/
def Nearest (A B F : Int) : Prop := 2 * (A - B * F).natAbs ≤ B.natAbs ∧ (2 * (A - B * F).natAbs = B.natAbs → A.natAbs < (B * F).natAbs)
theorem near_int {A B : Int} {q r : Nat} (hB : B ≠ 0) (h : A.natAbs = B.natAbs * q + r) (hr : r < B.natAbs) :
    Nearest A B (wholeI A B q (decide (B.natAbs - r ≤ r))) := by
  obtain ⟨hp, hn⟩ := sizes_signed h
  unfold wholeI Nearest
  by_cases hA : A = 0
  · have hq : q = 0 ∧ r = 0 := by
      rw [hA] at h
      have hz : B.natAbs * q = 0 := by omega
      rcases Nat.mul_eq_zero.1 hz with hz | hz
      · omega
      · exact ⟨hz, by omega⟩
    have hb : ¬ belowI A B := by unfold belowI; omega
    have hd : decide (B.natAbs - r ≤ r) = false := by rw [decide_eq_false_iff_not]; omega
    rw [if_neg hb, hd, hq.1, hA]
    simp
    omega
  · have hPs : 0 ≤ (B * (q : Int)) * B := by
      rw [Int.mul_comm, ← Int.mul_assoc]
      exact Int.mul_nonneg (by rcases Int.le_total 0 B with hb | hb; exact Int.mul_nonneg hb hb; exact Int.mul_nonneg_of_nonpos_of_nonpos hb hb) (by omega)
    have hP1 : 0 < B → 0 ≤ B * (q : Int) := fun hb => Int.mul_nonneg (by omega) (by omega)
    have hP2 : B < 0 → B * (q : Int) ≤ 0 := fun hb => Int.mul_nonpos_of_nonpos_of_nonneg (by omega) (by omega)
    clear hPs
    by_cases hb : belowI A B
    · rw [if_pos hb]
      by_cases h0 : B.natAbs - r ≤ r
      · rw [decide_eq_true h0]
        simp only [if_true, Int.mul_neg, Int.mul_add, Int.mul_one]
        generalize B * (q : Int) = P at *
        unfold belowI at *
        rcases hb with ⟨h1, h2⟩ | ⟨h1, h2⟩
        · have := (hp (by omega)).2 (by omega); omega
        · have := (hn (by omega)).1 (by omega); omega
      · rw [decide_eq_false h0]
        simp only [Bool.false_eq_true, if_false, Int.add_zero, Int.mul_neg]
        generalize B * (q : Int) = P at *
        unfold belowI at *
        rcases hb with ⟨h1, h2⟩ | ⟨h1, h2⟩
        · have := (hp (by omega)).2 (by omega); omega
        · have := (hn (by omega)).1 (by omega); omega
    · rw [if_neg hb]
      by_cases h0 : B.natAbs - r ≤ r
      · rw [decide_eq_true h0]
        simp only [if_true, Int.mul_add, Int.mul_one]
        generalize B * (q : Int) = P at *
        unfold belowI at *
        by_cases hs : 0 < B
        · have := (hp (by omega)).1 (by omega); omega
        · have := (hn (by omega)).2 (by omega); omega
      · rw [decide_eq_false h0]
        simp only [Bool.false_eq_true, if_false, Int.add_zero]
        generalize B * (q : Int) = P at *
        unfold belowI at *
        by_cases hs : 0 < B
        · have := (hp (by omega)).1 (by omega); omega
        · have := (hn (by omega)).2 (by omega); omega

end Go.Proofs.Ytpllklojcjhjaaa

/- A division, by sizes; Floor, Ceil and their like told. -/
namespace Go.Proofs.Ytpllklojcjhjaaa
open Go Go.RowKit
set_option linter.unusedSimpArgs false
set_option linter.unusedVariables false

abbrev least : Int := -57896044618658097711785492504343953926634992332820282019728792003956564819968
def errs (v : Int) : Res := .pan [{ v := .iface 28 (.int .i64 v), recovered := false }]
theorem eqv_z {x y : Int} (hx : inR x) (hy : inR y) : eqv (nz x) (nz y) = decide (x = y) := by
  rw [eqv_dec, Nat.mod_eq_of_lt (nz_lt x), Nat.mod_eq_of_lt (nz_lt y), decide_eq_decide]
  constructor
  · intro h
    have e : (nz x : Int) = (nz y : Int) := by rw [h]
    rw [nz_cast, nz_cast] at e
    unfold inR at *
    simp only [Mw] at e
    omega
  · rintro rfl
    rfl
theorem nz_least : nz least = 57896044618658097711785492504343953926634992332820282019728792003956564819968 := rfl
theorem least_in : inR least := by decide
theorem below_dec (x y : Int) : decide (IntKind.i64.wrap (x.sign * y.sign) < 0) = decide (belowI x y) := by
  have k : ∀ z : Int, (z < 0 ∧ z.sign = -1) ∨ (z = 0 ∧ z.sign = 0) ∨ (0 < z ∧ z.sign = 1) := by
    intro z
    rcases Int.lt_trichotomy z 0 with h | h | h
    · exact .inl ⟨h, Int.sign_eq_neg_one_of_neg h⟩
    · exact .inr (.inl ⟨h, by rw [h]; rfl⟩)
    · exact .inr (.inr ⟨h, Int.sign_eq_one_of_pos h⟩)
  have hw : ∀ w : Int, w = -1 ∨ w = 0 ∨ w = 1 → decide (IntKind.i64.wrap w < 0) = decide (w < 0) := by
    rintro w (rfl | rfl | rfl) <;> decide
  rcases k x with ⟨h1, h2⟩ | ⟨h1, h2⟩ | ⟨h1, h2⟩ <;> rcases k y with ⟨g1, g2⟩ | ⟨g1, g2⟩ | ⟨g1, g2⟩ <;> rw [h2, g2, hw _ (by decide), decide_eq_decide] <;> unfold belowI <;> omega
theorem whl_int (x y : Int) (T : Nat) (far : Bool) : whl T (decide (belowI x y)) far = wholeI x y T far := by
  unfold whl wholeI
  by_cases h : belowI x y
  · rw [if_pos (decide_eq_true h), if_pos h]
  · rw [if_neg (by simpa using h), if_neg h]
/-- The floor; the ceiling. -/
def flI (x y : Int) : Int := wholeI x y (x.natAbs / y.natAbs) (decide (belowI x y) && !decide (x.natAbs % y.natAbs = 0))
def ceI (x y : Int) : Int := wholeI x y (x.natAbs / y.natAbs) (!decide (belowI x y) && !decide (x.natAbs % y.natAbs = 0))
theorem rest_mod {x y : Int} (hy : inR y) (h0 : y ≠ 0) : x.natAbs % y.natAbs % Mw = x.natAbs % y.natAbs := by
  have := Nat.mod_lt x.natAbs (show 0 < y.natAbs by omega)
  have a2 := abs_le hy
  exact Nat.mod_eq_of_lt (Nat.lt_trans this (Nat.lt_of_le_of_lt a2 (by decide)))
end Go.Proofs.Ytpllklojcjhjaaa

/- The law QuotFloor, path by path (answers foretold). -/
namespace Go.Proofs.Ytpllklojcjhjaaa
open Go Go.RowKit
set_option linter.unusedSimpArgs false
set_option linter.unusedVariables false

end Go.Proofs.Ytpllklojcjhjaaa
