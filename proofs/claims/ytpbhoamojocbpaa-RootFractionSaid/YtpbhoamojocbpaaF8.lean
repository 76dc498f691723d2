/- The document's own product of digits. -/
import Derived.Test.YtpbhoamojocbpaaF7
import Derived.Deep.QuietTactic
import Derived.BigQuiet
namespace Go.Proofs.Ytpbhoamojocbpaa
open Go Go.RowKit Go.Shelf
set_option linter.unusedSimpArgs false
set_option linter.unusedVariables false

attribute [local go_sem] Oper.semAt_some

def upd (r : Nat → Nat) (i v : Nat) : Nat → Nat := fun j => if j = i then v else r j
def At8 (W : World) (B : Nat) (r : Nat → Nat) : Prop := W.heap[B]? = some (.cells #[.int .u64 (r 0), .int .u64 (r 1), .int .u64 (r 2), .int .u64 (r 3), .int .u64 (r 4), .int .u64 (r 5), .int .u64 (r 6), .int .u64 (r 7)] 61 (0, 0))

theorem grownBy_setCellAt (W : World) (b i : Nat) (v : Value) : W.grownBy (W.setCell ⟨b, i, none⟩ v) (some b) :=
  ⟨rfl, rfl, rfl, (KeepsWalks.setCell W _ v).size, fun k _ hk => Below.heap_setCell _ _ _ k (fun e => hk (by rw [e]))⟩
theorem At8.lt {W : World} {B : Nat} {r : Nat → Nat} (h : At8 W B r) : B < W.heap.size := (Array.getElem?_eq_some_iff.1 h).1
theorem At8.cell {W : World} {B : Nat} {r : Nat → Nat} (h : At8 W B r) (i : Nat) (hi : i < 8) : W.cell? ⟨B, i, none⟩ = some (.int .u64 (r i)) := by
  have : i = 0 ∨ i = 1 ∨ i = 2 ∨ i = 3 ∨ i = 4 ∨ i = 5 ∨ i = 6 ∨ i = 7 := by omega
  rcases this with rfl | rfl | rfl | rfl | rfl | rfl | rfl | rfl <;> simp [World.cell?, show W.heap[B]? = _ from h]
theorem At8.frozen {W : World} {B : Nat} {r : Nat → Nat} (h : At8 W B r) (i : Nat) : W.frozen? ⟨B, i, none⟩ = false := by simp [World.frozen?, show W.heap[B]? = _ from h]
theorem At8.kept {W W' : World} {row : Option Nat} {B : Nat} {r : Nat → Nat} (h : At8 W B r) (hg : W.grownBy W' row) (hne : some B ≠ row) : At8 W' B r := (hg.block B h.lt hne).trans h
theorem At8.alloc {W : World} {B : Nat} {r : Nat → Nat} (h : At8 W B r) (o : Obj) : At8 (W.alloc o) B r := h.kept (World.grownBy_alloc W o none) (by simp)
theorem At8.below {W W' : World} {B : Nat} {r : Nat → Nat} (h : At8 W B r) (hB : Below W.heap.size W W') : At8 W' B r := (hB.block B h.lt).trans h
theorem At8.set {W : World} {B : Nat} {r : Nat → Nat} (h : At8 W B r) (i v : Nat) (hi : i < 8) : At8 (W.setCell ⟨B, i, none⟩ (.int .u64 v)) B (upd r i v) := by
  obtain ⟨hlt, hk⟩ := Array.getElem?_eq_some_iff.1 h
  show (W.heap.modify B _)[B]? = _
  rw [Array.getElem?_eq_getElem (by rw [Array.size_modify]; exact hlt), Array.getElem_modify_self, hk]
  have : i = 0 ∨ i = 1 ∨ i = 2 ∨ i = 3 ∨ i = 4 ∨ i = 5 ∨ i = 6 ∨ i = 7 := by omega
  rcases this with rfl | rfl | rfl | rfl | rfl | rfl | rfl | rfl <;> simp [upd]
theorem At8.own {β : Type} (B : Nat) (f : β → Nat → Nat) : Own (fun s W => At8 W B (f s)) := fun s X Y row hs hg hr =>
  hs.kept hg (fun e' => by obtain ⟨o, ho, hc⟩ := hr B e'.symm; rw [show X.heap[B]? = _ from hs] at ho; cases ho; cases hc)
theorem At8.other {W : World} {B B' : Nat} {r : Nat → Nat} (h : At8 W B r) (hne : B ≠ B') (i : Nat) (u : Value) : At8 (W.setCell ⟨B', i, none⟩ u) B r :=
  h.kept (grownBy_setCellAt W B' i u) (fun e => hne (by cases e; rfl))
def Zr : Nat → Nat := fun _ => 0
def Digs (d : Nat → Nat) : Prop := ∀ i, d i < 4294967296
theorem At8.new (W : World) (r : Nat → Nat) : At8 (W.alloc (.cells #[.int .u64 (r 0), .int .u64 (r 1), .int .u64 (r 2), .int .u64 (r 3), .int .u64 (r 4), .int .u64 (r 5), .int .u64 (r 6), .int .u64 (r 7)] 61)) W.heap.size r := World.alloc_heap_new W _
theorem At8.drewN {W : World} {B : Nat} {r : Nat → Nat} (h : At8 W B r) (n : Nat) : At8 (W.drewN n) B r := h
theorem below_drewN {n : Nat} {w W : World} (h : Below n w W) (k : Nat) : Below n w (W.drewN k) := ⟨h.os, h.tape, h.output, h.size, h.block⟩
/-- The number of the lowest k digits by B. -/
def nm (B : Nat) (d : Nat → Nat) : Nat → Nat
  | 0 => 0
  | k + 1 => nm B d k + d k * B ^ k

theorem nm_congr {B : Nat} {d e : Nat → Nat} : ∀ k, (∀ i, i < k → d i = e i) → nm B d k = nm B e k := by
  intro k
  induction k with
  | zero => exact fun _ => rfl
  | succ k ih => intro h; rw [nm, nm, ih (fun i hi => h i (by omega)), h k (by omega)]
theorem nm_upd_ge {B : Nat} (d : Nat → Nat) {k i : Nat} (v : Nat) (h : k ≤ i) : nm B (upd d i v) k = nm B d k :=
  nm_congr k (fun j hj => by unfold upd; rw [if_neg (by omega)])
theorem nm_lt {B : Nat} {d : Nat → Nat} (k : Nat) (h : ∀ i, i < k → d i < B) : nm B d k < B ^ k := by
  induction k with
  | zero => simp [nm]
  | succ k ih =>
    have h1 := ih (fun i hi => h i (by omega))
    have h2 := h k (by omega)
    rw [nm, Nat.pow_succ]
    have h3 : (d k + 1) * B ^ k ≤ B * B ^ k := Nat.mul_le_mul_right _ h2
    rw [Nat.add_mul, Nat.one_mul] at h3
    rw [Nat.mul_comm (B ^ k) B]
    omega
theorem nm_zero {B : Nat} (k : Nat) : nm B (fun _ => 0) k = 0 := by
  induction k with
  | zero => rfl
  | succ k ih => rw [nm, ih]; simp

/-- The number of eight digits. -/
def dval (d : Nat → Nat) : Nat := nm 4294967296 d 8
theorem zr_digs : Digs Zr := fun _ => by simp [Zr]
/-- Block B holds sixteen words. -/
def At16 (W : World) (B : Nat) (r : Nat → Nat) : Prop := W.heap[B]? = some (.cells #[.int .u64 (r 0), .int .u64 (r 1), .int .u64 (r 2), .int .u64 (r 3), .int .u64 (r 4), .int .u64 (r 5), .int .u64 (r 6), .int .u64 (r 7), .int .u64 (r 8), .int .u64 (r 9), .int .u64 (r 10), .int .u64 (r 11), .int .u64 (r 12), .int .u64 (r 13), .int .u64 (r 14), .int .u64 (r 15)] 59 (0, 0))

theorem At16.lt {W : World} {B : Nat} {r : Nat → Nat} (h : At16 W B r) : B < W.heap.size := (Array.getElem?_eq_some_iff.1 h).1
theorem At16.cell {W : World} {B : Nat} {r : Nat → Nat} (h : At16 W B r) (i : Nat) (hi : i < 16) : W.cell? ⟨B, i, none⟩ = some (.int .u64 (r i)) := by
  have : i = 0 ∨ i = 1 ∨ i = 2 ∨ i = 3 ∨ i = 4 ∨ i = 5 ∨ i = 6 ∨ i = 7 ∨ i = 8 ∨ i = 9 ∨ i = 10 ∨ i = 11 ∨ i = 12 ∨ i = 13 ∨ i = 14 ∨ i = 15 := by omega
  rcases this with rfl | rfl | rfl | rfl | rfl | rfl | rfl | rfl | rfl | rfl | rfl | rfl | rfl | rfl | rfl | rfl <;> simp [World.cell?, show W.heap[B]? = _ from h]
theorem At16.frozen {W : World} {B : Nat} {r : Nat → Nat} (h : At16 W B r) (i : Nat) : W.frozen? ⟨B, i, none⟩ = false := by simp [World.frozen?, show W.heap[B]? = _ from h]
theorem At16.kept {W W' : World} {row : Option Nat} {B : Nat} {r : Nat → Nat} (h : At16 W B r) (hg : W.grownBy W' row) (hne : some B ≠ row) : At16 W' B r := (hg.block B h.lt hne).trans h
theorem At16.alloc {W : World} {B : Nat} {r : Nat → Nat} (h : At16 W B r) (o : Obj) : At16 (W.alloc o) B r := h.kept (World.grownBy_alloc W o none) (by simp)
theorem At16.below {W W' : World} {B : Nat} {r : Nat → Nat} (h : At16 W B r) (hB : Below W.heap.size W W') : At16 W' B r := (hB.block B h.lt).trans h
theorem At16.set {W : World} {B : Nat} {r : Nat → Nat} (h : At16 W B r) (i v : Nat) (hi : i < 16) : At16 (W.setCell ⟨B, i, none⟩ (.int .u64 v)) B (upd r i v) := by
  obtain ⟨hlt, hk⟩ := Array.getElem?_eq_some_iff.1 h
  show (W.heap.modify B _)[B]? = _
  rw [Array.getElem?_eq_getElem (by rw [Array.size_modify]; exact hlt), Array.getElem_modify_self, hk]
  have : i = 0 ∨ i = 1 ∨ i = 2 ∨ i = 3 ∨ i = 4 ∨ i = 5 ∨ i = 6 ∨ i = 7 ∨ i = 8 ∨ i = 9 ∨ i = 10 ∨ i = 11 ∨ i = 12 ∨ i = 13 ∨ i = 14 ∨ i = 15 := by omega
  rcases this with rfl | rfl | rfl | rfl | rfl | rfl | rfl | rfl | rfl | rfl | rfl | rfl | rfl | rfl | rfl | rfl <;> simp [upd]
theorem At16.other {W : World} {B B' : Nat} {r : Nat → Nat} (h : At16 W B r) (hne : B ≠ B') (i : Nat) (u : Value) : At16 (W.setCell ⟨B', i, none⟩ u) B r :=
  h.kept (grownBy_setCellAt W B' i u) (fun e => hne (by cases e; rfl))
theorem At16.new (W : World) (r : Nat → Nat) : At16 (W.alloc (.cells #[.int .u64 (r 0), .int .u64 (r 1), .int .u64 (r 2), .int .u64 (r 3), .int .u64 (r 4), .int .u64 (r 5), .int .u64 (r 6), .int .u64 (r 7), .int .u64 (r 8), .int .u64 (r 9), .int .u64 (r 10), .int .u64 (r 11), .int .u64 (r 12), .int .u64 (r 13), .int .u64 (r 14), .int .u64 (r 15)] 59)) W.heap.size r := World.alloc_heap_new W _
theorem At16.drewN {W : World} {B : Nat} {r : Nat → Nat} (h : At16 W B r) (n : Nat) : At16 (W.drewN n) B r := h

def tStep (a b : Nat → Nat) (i : Nat) (s : (Nat → Nat) × Nat) (k : Nat) : (Nat → Nat) × Nat := (upd s.1 (i + k) ((s.1 (i + k) + a i * b k + s.2) % 4294967296), (s.1 (i + k) + a i * b k + s.2) / 4294967296)
def tIn (a b : Nat → Nat) (i : Nat) (o : Nat → Nat) : Nat → (Nat → Nat) × Nat
  | 0 => (o, 0)
  | k + 1 => tStep a b i (tIn a b i o k) k
def tRow (a b : Nat → Nat) (i : Nat) (o : Nat → Nat) : Nat → Nat := if a i = 0 then o else upd (tIn a b i o 8).1 (i + 8) (tIn a b i o 8).2
def tOut (a b : Nat → Nat) : Nat → Nat → Nat
  | 0 => fun _ => 0
  | i + 1 => tRow a b i (tOut a b i)
def timesR (a b : Nat → Nat) : Nat → Nat := tOut a b 8

theorem prod_le {x y : Nat} (hx : x < 4294967296) (hy : y < 4294967296) : x * y ≤ 18446744065119617025 := Nat.mul_le_mul (Nat.le_of_lt_succ hx) (Nat.le_of_lt_succ hy)
theorem tIn_fine {a b o : Nat → Nat} {i : Nat} (ha : Digs a) (hb : Digs b) (ho : Digs o) : ∀ k, Digs (tIn a b i o k).1 ∧ (tIn a b i o k).2 < 4294967296 := by
  intro k
  induction k with
  | zero => exact ⟨ho, by simp [tIn]⟩
  | succ k ih =>
    obtain ⟨h1, h2⟩ := ih
    have p := prod_le (ha i) (hb k)
    have q := h1 (i + k)
    refine ⟨fun j => ?_, ?_⟩
    · show upd _ (i + k) _ j < _
      unfold upd
      split
      · omega
      · exact h1 j
    · show (_ + _ + _) / _ < _
      generalize a i * b k = z at *
      omega
theorem tOut_digs {a b : Nat → Nat} (ha : Digs a) (hb : Digs b) : ∀ i, Digs (tOut a b i) := by
  intro i
  induction i with
  | zero => exact fun _ => by simp [tOut]
  | succ i ih =>
    show Digs (tRow a b i (tOut a b i))
    unfold tRow
    split
    · exact ih
    · obtain ⟨h1, h2⟩ := tIn_fine (i := i) ha hb ih 8
      intro j
      unfold upd
      split
      · exact h2
      · exact h1 j

theorem tIn_ge (a b o : Nat → Nat) (i : Nat) : ∀ k j, i + k ≤ j → (tIn a b i o k).1 j = o j := by
  intro k
  induction k with
  | zero => exact fun _ _ => rfl
  | succ k ih =>
    intro j hj
    show upd _ (i + k) _ j = _
    unfold upd
    rw [if_neg (by omega)]
    exact ih j (by omega)
theorem tIn_val (a b o : Nat → Nat) (i : Nat) : ∀ k, nm 4294967296 (tIn a b i o k).1 (i + k) + (tIn a b i o k).2 * 4294967296 ^ (i + k) = nm 4294967296 o (i + k) + a i * 4294967296 ^ i * nm 4294967296 b k := by
  intro k
  induction k with
  | zero => simp [tIn, nm]
  | succ k ih =>
    have h := tIn_ge a b o i k (i + k) (Nat.le_refl _)
    show nm _ (upd (tIn a b i o k).1 (i + k) (((tIn a b i o k).1 (i + k) + a i * b k + (tIn a b i o k).2) % 4294967296)) (i + k + 1) + ((tIn a b i o k).1 (i + k) + a i * b k + (tIn a b i o k).2) / 4294967296 * 4294967296 ^ (i + k + 1) = nm 4294967296 o (i + k + 1) + _
    rw [nm, nm_upd_ge _ _ (Nat.le_refl _), nm, nm]
    rw [show upd (tIn a b i o k).1 (i + k) (((tIn a b i o k).1 (i + k) + a i * b k + (tIn a b i o k).2) % 4294967296) (i + k) = ((tIn a b i o k).1 (i + k) + a i * b k + (tIn a b i o k).2) % 4294967296 by simp [upd], h]
    generalize (tIn a b i o k).2 = c2 at *
    generalize nm 4294967296 (tIn a b i o k).1 (i + k) = X at *
    have e : (o (i + k) + a i * b k + c2) % 4294967296 * 4294967296 ^ (i + k) + (o (i + k) + a i * b k + c2) / 4294967296 * 4294967296 ^ (i + k + 1) = (o (i + k) + a i * b k + c2) * 4294967296 ^ (i + k) := by
      rw [Nat.pow_succ, Nat.mul_comm (4294967296 ^ (i + k)) 4294967296, ← Nat.mul_assoc, ← Nat.add_mul]
      congr 1
      omega
    have e2 : (o (i + k) + a i * b k + c2) * 4294967296 ^ (i + k) = o (i + k) * 4294967296 ^ (i + k) + a i * b k * 4294967296 ^ (i + k) + c2 * 4294967296 ^ (i + k) := by rw [Nat.add_mul, Nat.add_mul]
    have e3 : a i * 4294967296 ^ i * (nm 4294967296 b k + b k * 4294967296 ^ k) = a i * 4294967296 ^ i * nm 4294967296 b k + a i * b k * 4294967296 ^ (i + k) := by
      rw [Nat.mul_add, Nat.pow_add]
      congr 1
      simp only [Nat.mul_assoc, Nat.mul_left_comm]
    omega
theorem tRow_val {a b o : Nat → Nat} {i A C : Nat} (h1 : nm 4294967296 o (i + 8) = C) (h2 : ∀ j, i + 8 ≤ j → o j = 0) (hA : A = a i * 4294967296 ^ i * nm 4294967296 b 8) :
    nm 4294967296 (tRow a b i o) (i + 8 + 1) = C + A ∧ ∀ j, i + 8 + 1 ≤ j → tRow a b i o j = 0 := by
  have h3 := tIn_val a b o i 8
  have h4 := tIn_ge a b o i 8
  unfold tRow
  generalize tIn a b i o 8 = r at *
  split
  · rename_i h0
    refine ⟨?_, fun j hj => h2 j (by omega)⟩
    rw [nm, h1, h2 (i + 8) (Nat.le_refl _), hA, h0]
    simp
  · refine ⟨?_, fun j hj => ?_⟩
    · rw [nm, nm_upd_ge _ _ (Nat.le_refl _), show upd r.1 (i + 8) r.2 (i + 8) = r.2 by simp [upd], h3, h1, hA]
    · unfold upd
      rw [if_neg (by omega), h4 j (by omega), h2 j (by omega)]
theorem tOut_val (a b : Nat → Nat) : ∀ i, nm 4294967296 (tOut a b i) (i + 8) = nm 4294967296 a i * nm 4294967296 b 8 ∧ ∀ j, i + 8 ≤ j → tOut a b i j = 0 := by
  intro i
  induction i with
  | zero => exact ⟨(nm_zero _).trans (Nat.zero_mul _).symm, fun _ _ => rfl⟩
  | succ i ih =>
    have h := tRow_val (a := a) (b := b) ih.1 ih.2 rfl
    have e : nm 4294967296 a (i + 1) * nm 4294967296 b 8 = nm 4294967296 a i * nm 4294967296 b 8 + a i * 4294967296 ^ i * nm 4294967296 b 8 := by rw [nm, Nat.add_mul]
    rw [e, show i + 1 + 8 = i + 8 + 1 by omega]
    exact h
theorem timesR_val (a b : Nat → Nat) : nm 4294967296 (timesR a b) 16 = dval a * dval b := (tOut_val a b 8).1
theorem timesR_digs {a b : Nat → Nat} (ha : Digs a) (hb : Digs b) : Digs (timesR a b) := tOut_digs ha hb 8

/-- The blocks of times. -/
def Tb (N : Nat) (w : World) (a b o : Nat → Nat) (W : World) : Prop := At8 W N a ∧ At8 W (N + 1) b ∧ At16 W (N + 1 + 1) Zr ∧ At16 W (N + 1 + 1 + 1) o ∧ Below N w W
theorem tb_drewN {N : Nat} {w W : World} {a b o : Nat → Nat} (h : Tb N w a b o W) (n : Nat) : Tb N w a b o (W.drewN n) := ⟨h.1, h.2.1, h.2.2.1, h.2.2.2.1, below_drewN h.2.2.2.2 n⟩
theorem tb_set {N : Nat} {w W : World} {a b o : Nat → Nat} (h : Tb N w a b o W) (i v : Nat) (hi : i < 16) : Tb N w a b (upd o i v) (W.setCell ⟨N + 1 + 1 + 1, i, none⟩ (.int .u64 v)) :=
  ⟨h.1.other (by omega) _ _, h.2.1.other (by omega) _ _, h.2.2.1.other (by omega) _ _, h.2.2.2.1.set i v hi, h.2.2.2.2.setCell (p := ⟨N + 1 + 1 + 1, i, none⟩) (by show N ≤ N + 1 + 1 + 1; omega) _⟩
theorem tb_new (a b : Nat → Nat) (w : World) : Tb w.heap.size w a b Zr ((((w.alloc (.cells #[.int .u64 (a 0), .int .u64 (a 1), .int .u64 (a 2), .int .u64 (a 3), .int .u64 (a 4), .int .u64 (a 5), .int .u64 (a 6), .int .u64 (a 7)] 61)).alloc (.cells #[.int .u64 (b 0), .int .u64 (b 1), .int .u64 (b 2), .int .u64 (b 3), .int .u64 (b 4), .int .u64 (b 5), .int .u64 (b 6), .int .u64 (b 7)] 61)).alloc (.cells #[.int .u64 0, .int .u64 0, .int .u64 0, .int .u64 0, .int .u64 0, .int .u64 0, .int .u64 0, .int .u64 0, .int .u64 0, .int .u64 0, .int .u64 0, .int .u64 0, .int .u64 0, .int .u64 0, .int .u64 0, .int .u64 0] 59)).alloc (.cells #[.int .u64 0, .int .u64 0, .int .u64 0, .int .u64 0, .int .u64 0, .int .u64 0, .int .u64 0, .int .u64 0, .int .u64 0, .int .u64 0, .int .u64 0, .int .u64 0, .int .u64 0, .int .u64 0, .int .u64 0, .int .u64 0] 59)) := by
  refine ⟨(((At8.new w a).alloc _).alloc _).alloc _, ?_, ?_, ?_, ((((Below.refl _ w).alloc (Nat.le_refl _) _).alloc (by simp) _).alloc (by simp; omega) _).alloc (by simp; omega) _⟩
  · have h := At8.new (w.alloc (.cells #[.int .u64 (a 0), .int .u64 (a 1), .int .u64 (a 2), .int .u64 (a 3), .int .u64 (a 4), .int .u64 (a 5), .int .u64 (a 6), .int .u64 (a 7)] 61)) b
    rw [World.size_alloc] at h
    exact (h.alloc _).alloc _
  · have h := At16.new ((w.alloc (.cells #[.int .u64 (a 0), .int .u64 (a 1), .int .u64 (a 2), .int .u64 (a 3), .int .u64 (a 4), .int .u64 (a 5), .int .u64 (a 6), .int .u64 (a 7)] 61)).alloc (.cells #[.int .u64 (b 0), .int .u64 (b 1), .int .u64 (b 2), .int .u64 (b 3), .int .u64 (b 4), .int .u64 (b 5), .int .u64 (b 6), .int .u64 (b 7)] 61)) Zr
    rw [World.size_alloc, World.size_alloc] at h
    exact h.alloc _
  · have h := At16.new (((w.alloc (.cells #[.int .u64 (a 0), .int .u64 (a 1), .int .u64 (a 2), .int .u64 (a 3), .int .u64 (a 4), .int .u64 (a 5), .int .u64 (a 6), .int .u64 (a 7)] 61)).alloc (.cells #[.int .u64 (b 0), .int .u64 (b 1), .int .u64 (b 2), .int .u64 (b 3), .int .u64 (b 4), .int .u64 (b 5), .int .u64 (b 6), .int .u64 (b 7)] 61)).alloc (.cells #[.int .u64 0, .int .u64 0, .int .u64 0, .int .u64 0, .int .u64 0, .int .u64 0, .int .u64 0, .int .u64 0, .int .u64 0, .int .u64 0, .int .u64 0, .int .u64 0, .int .u64 0, .int .u64 0, .int .u64 0, .int .u64 0] 59)) Zr
    rw [World.size_alloc, World.size_alloc, World.size_alloc] at h
    exact h

set_option maxRecDepth 100000 in
set_option maxHeartbeats 4000000 in
theorem times_r (a b : Nat → Nat) (ha : Digs a) (hb : Digs b) (w : World) : Calls Try.prog 74 #[.agg #[.int .u64 (a 0), .int .u64 (a 1), .int .u64 (a 2), .int .u64 (a 3), .int .u64 (a 4), .int .u64 (a 5), .int .u64 (a 6), .int .u64 (a 7)], .agg #[.int .u64 (b 0), .int .u64 (b 1), .int .u64 (b 2), .int .u64 (b 3), .int .u64 (b 4), .int .u64 (b 5), .int .u64 (b 6), .int .u64 (b 7)]] w fun ee w' => ee = .returned (.agg #[.int .u64 (timesR a b 0), .int .u64 (timesR a b 1), .int .u64 (timesR a b 2), .int .u64 (timesR a b 3), .int .u64 (timesR a b 4), .int .u64 (timesR a b 5), .int .u64 (timesR a b 6), .int .u64 (timesR a b 7), .int .u64 (timesR a b 8), .int .u64 (timesR a b 9), .int .u64 (timesR a b 10), .int .u64 (timesR a b 11), .int .u64 (timesR a b 12), .int .u64 (timesR a b 13), .int .u64 (timesR a b 14), .int .u64 (timesR a b 15)]) ∧ Below w.heap.size w w' := by
  have hT := tb_new a b w
  go_enter Try.func74, Try.ntmps74
  go_wp2
  obtain ⟨V, hV⟩ : ∃ V, ((((w.alloc (.cells #[.int .u64 (a 0), .int .u64 (a 1), .int .u64 (a 2), .int .u64 (a 3), .int .u64 (a 4), .int .u64 (a 5), .int .u64 (a 6), .int .u64 (a 7)] 61)).alloc (.cells #[.int .u64 (b 0), .int .u64 (b 1), .int .u64 (b 2), .int .u64 (b 3), .int .u64 (b 4), .int .u64 (b 5), .int .u64 (b 6), .int .u64 (b 7)] 61)).alloc (.cells #[.int .u64 0, .int .u64 0, .int .u64 0, .int .u64 0, .int .u64 0, .int .u64 0, .int .u64 0, .int .u64 0, .int .u64 0, .int .u64 0, .int .u64 0, .int .u64 0, .int .u64 0, .int .u64 0, .int .u64 0, .int .u64 0] 59)).alloc (.cells #[.int .u64 0, .int .u64 0, .int .u64 0, .int .u64 0, .int .u64 0, .int .u64 0, .int .u64 0, .int .u64 0, .int .u64 0, .int .u64 0, .int .u64 0, .int .u64 0, .int .u64 0, .int .u64 0, .int .u64 0, .int .u64 0] 59)) = V := ⟨_, rfl⟩
  rw [hV] at hT ⊢
  clear hV
  obtain ⟨N, hN⟩ : ∃ N, w.heap.size = N := ⟨_, rfl⟩
  rw [hN] at hT ⊢
  go_loopw [6] (fun v6 wr => ∃ i : Nat, i ≤ 8 ∧ v6 = .int .i64 i ∧ Tb N w a b (tOut a b i) wr) (fun v6 _ => 8 - (intOf v6).toNat)
  case atStart => exact ⟨0, by omega, rfl, hT⟩
  case round =>
    clear hT
    obtain ⟨i, hi, rfl, hT⟩ := hrel
    by_cases hlt : i < 8
    · have hii : (i : Int) < 8 := by omega
      have ho := tOut_digs ha hb i
      have HE : Hid (tOut a b (i + 1) = tRow a b i (tOut a b i)) := Lib.hid rfl
      generalize hoo : tOut a b i = o at *
      clear hoo
      have ca := hT.1.cell i hlt
      have xi := ha i
      obtain ⟨x, hx⟩ : ∃ x, a i = x := ⟨_, rfl⟩
      rw [hx] at ca xi
      by_cases h0 : x = 0
      · subst h0
        have HX := Lib.hid hx
        clear hx
        go_wp2
        go_roundw
        case rel => exact ⟨i + 1, by omega, by go_num, by rw [HE.out, tRow, if_pos HX.out]; exact hT⟩
        case measure => simp [intOf]; omega
      · have HX := Lib.hid hx
        clear hx
        have hx1 : ((x : Int) == 0) = false := by rw [beq_eq_false_iff_ne]; omega
        go_wp2
        obtain ⟨wo, rfl⟩ : ∃ wo : World, wo = wr := ⟨_, rfl⟩
        go_loopw [7, 8] (fun v7 v8 wr => ∃ k : Nat, k ≤ 8 ∧ v8 = .int .i64 k ∧ v7 = .int .u64 (tIn a b i o k).2 ∧ Tb N w a b (tIn a b i o k).1 wr) (fun _ v8 _ => 8 - (intOf v8).toNat)
        case atStart => exact ⟨0, by omega, rfl, rfl, hT⟩
        case round =>
          clear hT ca
          obtain ⟨k, hk, rfl, rfl, hT⟩ := hrel
          by_cases hkt : k < 8
          · have hki : (k : Int) < 8 := by omega
            obtain ⟨h1, h2⟩ := tIn_fine (i := i) ha hb ho k
            have H1 : Hid ((tIn a b i o (k + 1)).1 = upd (tIn a b i o k).1 (i + k) (((tIn a b i o k).1 (i + k) + a i * b k + (tIn a b i o k).2) % 4294967296)) := Lib.hid rfl
            have H2 : Hid ((tIn a b i o (k + 1)).2 = ((tIn a b i o k).1 (i + k) + a i * b k + (tIn a b i o k).2) / 4294967296) := Lib.hid rfl
            generalize (tIn a b i o k).1 = q1 at *
            generalize (tIn a b i o k).2 = q2 at *
            have c0 := hT.2.2.2.1.cell (i + k) (by omega)
            have f0 := hT.2.2.2.1.frozen (i + k)
            have c1 := hT.1.cell i hlt
            have c2 := hT.2.1.cell k hkt
            have g0 := h1 (i + k)
            have g2 := hb k
            rw [HX.out] at c1 H1 H2
            obtain ⟨y, hy⟩ : ∃ y, b k = y := ⟨_, rfl⟩
            obtain ⟨u, hu⟩ : ∃ u, q1 (i + k) = u := ⟨_, rfl⟩
            rw [hy] at c2 g2 H1 H2
            rw [hu] at c0 g0 H1 H2
            clear hy hu h1 ho
            have m := prod_le xi g2
            have m0 : (0 : Int) ≤ (x : Int) * (y : Int) := Int.mul_nonneg (by omega) (by omega)
            have m1 : (x : Int) * (y : Int) ≤ 18446744065119617025 := by have := Int.ofNat_le.2 m; simpa using this
            have E : Hid (((u : Int) + (x : Int) * (y : Int) + (q2 : Int)) % 4294967296 = (((u + x * y + q2) % 4294967296 : Nat) : Int)) := Lib.hid (by simp)
            have F : Hid (((u : Int) + (x : Int) * (y : Int) + (q2 : Int)) / 4294967296 = (((u + x * y + q2) / 4294967296 : Nat) : Int)) := Lib.hid (by simp)
            clear m
            go_wp2
            go_quiet (fail)
            go_wp2
            go_roundw
            case rel => exact ⟨k + 1, by omega, by go_num, by rw [F.out, H2.out], by rw [E.out, H1.out]; exact tb_set (tb_drewN hT _) (i + k) _ (by omega)⟩
            case measure => simp [intOf]; omega
          · obtain rfl : k = 8 := by omega
            have HE2 : Hid (tOut a b (i + 1) = upd (tIn a b i o 8).1 (i + 8) (tIn a b i o 8).2) := Lib.hid (by rw [HE.out, tRow, if_neg (by rw [HX.out]; exact h0)])
            generalize (tIn a b i o 8).1 = q1 at *
            generalize (tIn a b i o 8).2 = q2 at *
            have c0 := hT.2.2.2.1.cell (i + 8) (by omega)
            have f0 := hT.2.2.2.1.frozen (i + 8)
            go_wp2
            go_roundw
            case rel => exact ⟨i + 1, by omega, by go_num, by rw [HE2.out]; exact tb_set hT (i + 8) _ (by omega)⟩
            case measure => simp [intOf]; omega
    · obtain rfl : i = 8 := by omega
      change Tb N w a b (timesR a b) wr at hT
      have c0 := hT.2.2.2.1.cell 0 (by omega)
      have c1 := hT.2.2.2.1.cell 1 (by omega)
      have c2 := hT.2.2.2.1.cell 2 (by omega)
      have c3 := hT.2.2.2.1.cell 3 (by omega)
      have c4 := hT.2.2.2.1.cell 4 (by omega)
      have c5 := hT.2.2.2.1.cell 5 (by omega)
      have c6 := hT.2.2.2.1.cell 6 (by omega)
      have c7 := hT.2.2.2.1.cell 7 (by omega)
      have c8 := hT.2.2.2.1.cell 8 (by omega)
      have c9 := hT.2.2.2.1.cell 9 (by omega)
      have c10 := hT.2.2.2.1.cell 10 (by omega)
      have c11 := hT.2.2.2.1.cell 11 (by omega)
      have c12 := hT.2.2.2.1.cell 12 (by omega)
      have c13 := hT.2.2.2.1.cell 13 (by omega)
      have c14 := hT.2.2.2.1.cell 14 (by omega)
      have c15 := hT.2.2.2.1.cell 15 (by omega)
      have z0 := hT.2.2.1.cell 0 (by omega)
      have zf0 := hT.2.2.1.frozen 0
      have z1 := hT.2.2.1.cell 1 (by omega)
      have zf1 := hT.2.2.1.frozen 1
      have z2 := hT.2.2.1.cell 2 (by omega)
      have zf2 := hT.2.2.1.frozen 2
      have z3 := hT.2.2.1.cell 3 (by omega)
      have zf3 := hT.2.2.1.frozen 3
      have z4 := hT.2.2.1.cell 4 (by omega)
      have zf4 := hT.2.2.1.frozen 4
      have z5 := hT.2.2.1.cell 5 (by omega)
      have zf5 := hT.2.2.1.frozen 5
      have z6 := hT.2.2.1.cell 6 (by omega)
      have zf6 := hT.2.2.1.frozen 6
      have z7 := hT.2.2.1.cell 7 (by omega)
      have zf7 := hT.2.2.1.frozen 7
      have z8 := hT.2.2.1.cell 8 (by omega)
      have zf8 := hT.2.2.1.frozen 8
      have z9 := hT.2.2.1.cell 9 (by omega)
      have zf9 := hT.2.2.1.frozen 9
      have z10 := hT.2.2.1.cell 10 (by omega)
      have zf10 := hT.2.2.1.frozen 10
      have z11 := hT.2.2.1.cell 11 (by omega)
      have zf11 := hT.2.2.1.frozen 11
      have z12 := hT.2.2.1.cell 12 (by omega)
      have zf12 := hT.2.2.1.frozen 12
      have z13 := hT.2.2.1.cell 13 (by omega)
      have zf13 := hT.2.2.1.frozen 13
      have z14 := hT.2.2.1.cell 14 (by omega)
      have zf14 := hT.2.2.1.frozen 14
      have z15 := hT.2.2.1.cell 15 (by omega)
      have zf15 := hT.2.2.1.frozen 15
      have hNN : N ≤ N + 1 + 1 := by omega
      go_wp2
      refine bodyPost_ret (v := .agg #[.int .u64 (timesR a b 0), .int .u64 (timesR a b 1), .int .u64 (timesR a b 2), .int .u64 (timesR a b 3), .int .u64 (timesR a b 4), .int .u64 (timesR a b 5), .int .u64 (timesR a b 6), .int .u64 (timesR a b 7), .int .u64 (timesR a b 8), .int .u64 (timesR a b 9), .int .u64 (timesR a b 10), .int .u64 (timesR a b 11), .int .u64 (timesR a b 12), .int .u64 (timesR a b 13), .int .u64 (timesR a b 14), .int .u64 (timesR a b 15)]) (by simp [results, Try.results74, go_sem, z0, z1, z2, z3, z4, z5, z6, z7, z8, z9, z10, z11, z12, z13, z14, z15]) rfl ⟨rfl, ?_⟩
      rw [hN]
      exact ((((((((((((((((hT.2.2.2.2.setCell (p := ⟨N + 1 + 1, 0, none⟩) hNN _).setCell (p := ⟨N + 1 + 1, 1, none⟩) hNN _).setCell (p := ⟨N + 1 + 1, 2, none⟩) hNN _).setCell (p := ⟨N + 1 + 1, 3, none⟩) hNN _).setCell (p := ⟨N + 1 + 1, 4, none⟩) hNN _).setCell (p := ⟨N + 1 + 1, 5, none⟩) hNN _).setCell (p := ⟨N + 1 + 1, 6, none⟩) hNN _).setCell (p := ⟨N + 1 + 1, 7, none⟩) hNN _).setCell (p := ⟨N + 1 + 1, 8, none⟩) hNN _).setCell (p := ⟨N + 1 + 1, 9, none⟩) hNN _).setCell (p := ⟨N + 1 + 1, 10, none⟩) hNN _).setCell (p := ⟨N + 1 + 1, 11, none⟩) hNN _).setCell (p := ⟨N + 1 + 1, 12, none⟩) hNN _).setCell (p := ⟨N + 1 + 1, 13, none⟩) hNN _).setCell (p := ⟨N + 1 + 1, 14, none⟩) hNN _).setCell (p := ⟨N + 1 + 1, 15, none⟩) hNN _)

end Go.Proofs.Ytpbhoamojocbpaa
