/- Blocks of words (four, eight), and the contracts of the smallest functions of package wide, for every input. -/
import Derived.Test.YtecgclkjglkkbaaRows
import Derived.WalkKit
import Derived.Outline
import Derived.RangeFuncNested
import Derived.RangeFuncBound
import Derived.RangeFuncCalls
import Derived.RangeFuncLeaves
import Derived.RangeFuncBox
import Derived.Shelf.Abstract
import Derived.Shelf.RegionOpen
import Derived.OwnWalkIn
import Derived.TacticsInMore
import Derived.LoopNIn
import Derived.LoopIn
import Derived.Maps.AppendAt
import Derived.Lib.Hide
import Derived.Lib.Mul64
import Derived.Laws.Bits64b
import Derived.Laws.Externs
namespace Go.Proofs.Ytecgclkjglkkbaa
open Go Go.RowKit Go.Shelf
set_option linter.unusedSimpArgs false
set_option linter.unusedVariables false

attribute [local go_sem] Oper.semAt_some

/-- Four words as a value. -/
def V4 (r : Nat → Nat) : Value := .agg #[.int .u64 (r 0), .int .u64 (r 1), .int .u64 (r 2), .int .u64 (r 3)]

/-- Block B holds four words. -/
def At4 (W : World) (B : Nat) (r : Nat → Nat) : Prop := W.heap[B]? = some (.cells #[.int .u64 (r 0), .int .u64 (r 1), .int .u64 (r 2), .int .u64 (r 3)] 24 (0, 0))

theorem At4.lt {W : World} {B : Nat} {r : Nat → Nat} (h : At4 W B r) : B < W.heap.size := (Array.getElem?_eq_some_iff.1 h).1
theorem At4.cell {W : World} {B : Nat} {r : Nat → Nat} (h : At4 W B r) (i : Nat) (hi : i < 4) : W.cell? ⟨B, i, none⟩ = some (.int .u64 (r i)) := by
  have : i = 0 ∨ i = 1 ∨ i = 2 ∨ i = 3 := by omega
  rcases this with rfl | rfl | rfl | rfl <;> simp [World.cell?, show W.heap[B]? = _ from h]
theorem At4.frozen {W : World} {B : Nat} {r : Nat → Nat} (h : At4 W B r) (i : Nat) : W.frozen? ⟨B, i, none⟩ = false := by simp [World.frozen?, show W.heap[B]? = _ from h]
theorem At4.kept {W W' : World} {row : Option Nat} {B : Nat} {r : Nat → Nat} (h : At4 W B r) (hg : W.grownBy W' row) (hne : some B ≠ row) : At4 W' B r := (hg.block B h.lt hne).trans h
theorem At4.alloc {W : World} {B : Nat} {r : Nat → Nat} (h : At4 W B r) (o : Obj) : At4 (W.alloc o) B r := h.kept (World.grownBy_alloc W o none) (by simp)
theorem At4.below {W W' : World} {B : Nat} {r : Nat → Nat} (h : At4 W B r) (hB : Below W.heap.size W W') : At4 W' B r := (hB.block B h.lt).trans h

def upd (r : Nat → Nat) (i v : Nat) : Nat → Nat := fun j => if j = i then v else r j

theorem At4.set {W : World} {B : Nat} {r : Nat → Nat} (h : At4 W B r) (i v : Nat) (hi : i < 4) : At4 (W.setCell ⟨B, i, none⟩ (.int .u64 v)) B (upd r i v) := by
  obtain ⟨hlt, hk⟩ := Array.getElem?_eq_some_iff.1 h
  show (W.heap.modify B _)[B]? = _
  rw [Array.getElem?_eq_getElem (by rw [Array.size_modify]; exact hlt), Array.getElem_modify_self, hk]
  have : i = 0 ∨ i = 1 ∨ i = 2 ∨ i = 3 := by omega
  rcases this with rfl | rfl | rfl | rfl <;> simp [upd]
theorem At4.own {β : Type} (B : Nat) (f : β → Nat → Nat) : Own (fun s W => At4 W B (f s)) := fun s X Y row hs hg hr =>
  hs.kept hg (fun e' => by obtain ⟨o, ho, hc⟩ := hr B e'.symm; rw [show X.heap[B]? = _ from hs] at ho; cases ho; cases hc)
theorem grownBy_setCellAt (W : World) (b i : Nat) (v : Value) : W.grownBy (W.setCell ⟨b, i, none⟩ v) (some b) :=
  ⟨rfl, rfl, rfl, (KeepsWalks.setCell W _ v).size, fun k _ hk => Below.heap_setCell _ _ _ k (fun e => hk (by rw [e]))⟩
theorem At4.other {W : World} {B B' : Nat} {r : Nat → Nat} (h : At4 W B r) (hne : B ≠ B') (i : Nat) (u : Value) : At4 (W.setCell ⟨B', i, none⟩ u) B r :=
  h.kept (grownBy_setCellAt W B' i u) (fun e => hne (by cases e; rfl))
theorem boxed_other {W : World} {B B' : Nat} {t : TypeId} {v : Value} (h : Boxed W B t v) (hne : B ≠ B') (i : Nat) (u : Value) : Boxed (W.setCell ⟨B', i, none⟩ u) B t v :=
  h.kept (grownBy_setCellAt W B' i u) (fun e => hne (by cases e; rfl))
theorem At4.new (W : World) (r : Nat → Nat) : At4 (W.alloc (.cells #[.int .u64 (r 0), .int .u64 (r 1), .int .u64 (r 2), .int .u64 (r 3)] 24)) W.heap.size r := World.alloc_heap_new W _

/-- Block B holds eight words. -/
def At8 (W : World) (B : Nat) (r : Nat → Nat) : Prop := W.heap[B]? = some (.cells #[.int .u64 (r 0), .int .u64 (r 1), .int .u64 (r 2), .int .u64 (r 3), .int .u64 (r 4), .int .u64 (r 5), .int .u64 (r 6), .int .u64 (r 7)] 54 (0, 0))

theorem At8.lt {W : World} {B : Nat} {r : Nat → Nat} (h : At8 W B r) : B < W.heap.size := (Array.getElem?_eq_some_iff.1 h).1
theorem At8.cell {W : World} {B : Nat} {r : Nat → Nat} (h : At8 W B r) (i : Nat) (hi : i < 8) : W.cell? ⟨B, i, none⟩ = some (.int .u64 (r i)) := by
  have : i = 0 ∨ i = 1 ∨ i = 2 ∨ i = 3 ∨ i = 4 ∨ i = 5 ∨ i = 6 ∨ i = 7 := by omega
  rcases this with rfl | rfl | rfl | rfl | rfl | rfl | rfl | rfl <;> simp [World.cell?, show W.heap[B]? = _ from h]
theorem At8.frozen {W : World} {B : Nat} {r : Nat → Nat} (h : At8 W B r) (i : Nat) : W.frozen? ⟨B, i, none⟩ = false := by simp [World.frozen?, show W.heap[B]? = _ from h]
theorem At8.kept {W W' : World} {row : Option Nat} {B : Nat} {r : Nat → Nat} (h : At8 W B r) (hg : W.grownBy W' row) (hne : some B ≠ row) : At8 W' B r := (hg.block B h.lt hne).trans h
theorem At8.alloc {W : World} {B : Nat} {r : Nat → Nat} (h : At8 W B r) (o : Obj) : At8 (W.alloc o) B r := h.kept (World.grownBy_alloc W o none) (by simp)
theorem At8.below {W W' : World} {B : Nat} {r : Nat → Nat} (h : At8 W B r) (hB : Below W.heap.size W W') : At8 W' B r := (hB.block B h.lt).trans h
theorem At8.set {W : World} {B : Nat} {r : Nat → Nat} (h : At8 W B r) (i v : Nat) (hi : i < 8) : At8 (W.setCell ⟨B, i, none⟩ (.int .u64 v)) B (upd r i v) := by
  obtain ⟨hlt, hk⟩ := Array.getElem?_eq_some_iff.1 h
  show (W.heap.modify B _)[B]? = _
  rw [Array.getElem?_eq_getElem (by rw [Array.size_modify]; exact hlt), Array.getElem_modify_self, hk]
  have : i = 0 ∨ i = 1 ∨ i = 2 ∨ i = 3 ∨ i = 4 ∨ i = 5 ∨ i = 6 ∨ i = 7 := by omega
  rcases this with rfl | rfl | rfl | rfl | rfl | rfl | rfl | rfl <;> simp [upd]
theorem At8.own {β : Type} (B : Nat) (f : β → Nat → Nat) : Own (fun s W => At8 W B (f s)) := fun s X Y row hs hg hr =>
  hs.kept hg (fun e' => by obtain ⟨o, ho, hc⟩ := hr B e'.symm; rw [show X.heap[B]? = _ from hs] at ho; cases ho; cases hc)
theorem At8.other {W : World} {B B' : Nat} {r : Nat → Nat} (h : At8 W B r) (hne : B ≠ B') (i : Nat) (u : Value) : At8 (W.setCell ⟨B', i, none⟩ u) B r :=
  h.kept (grownBy_setCellAt W B' i u) (fun e => hne (by cases e; rfl))

theorem call_add64 (x y c : Nat) (hc : c ≤ 1) (w : World) :
    (callFunc 47 #[.int .u64 x, .int .u64 y, .int .u64 c]).run Try.prog w =
      .ok (.value (.tuple #[.int .u64 (((x + y + c) % 18446744073709551616 : Nat) : Int), .int .u64 (((x + y + c) / 18446744073709551616 : Nat) : Int)])) w := by
  rw [run_callFunc_extern Try.func47 (by kernel_rfl) (by kernel_rfl) (by kernel_rfl) (e := add64Entry) (by kernel_rfl), run_add64 x y c (by omega) (by omega) (by omega) (by omega)]
  simp only [Result.andThen]
  congr 5 <;> omega

/-- The model's entry for math/bits.Sub64. -/
def subEntry : Array Value → Sem Value := fun args => do
  let (x, y, b) ← Extern.MathBitsCarry.three "Sub64" args
  pure (Extern.MathBitsCarry.pair ((x + Extern.MathBitsCarry.m64 - y - b) % Extern.MathBitsCarry.m64) (if x < y + b then 1 else 0))

theorem run_subE (x y b : Nat) (hb : b ≤ 1) (w : World) :
    (subEntry #[.int .u64 x, .int .u64 y, .int .u64 b]).run Try.prog w =
      .ok (.tuple #[.int .u64 (((x + 18446744073709551616 - y - b) % 18446744073709551616 : Nat) : Int), .int .u64 ((if x < y + b then 1 else 0 : Nat) : Int)]) w := by
  have : b = 0 ∨ b = 1 := by omega
  rcases this with rfl | rfl <;> rfl

theorem call_sub64 (x y b : Nat) (hb : b ≤ 1) (w : World) :
    (callFunc 53 #[.int .u64 x, .int .u64 y, .int .u64 b]).run Try.prog w =
      .ok (.value (.tuple #[.int .u64 (((x + 18446744073709551616 - y - b) % 18446744073709551616 : Nat) : Int), .int .u64 ((if x < y + b then 1 else 0 : Nat) : Int)])) w := by
  rw [run_callFunc_extern Try.func53 (by kernel_rfl) (by kernel_rfl) (by kernel_rfl) (e := subEntry) (by kernel_rfl), run_subE x y b hb]
  rfl

theorem wordsOf_any (r : Nat → Nat) (w : World) :
    Calls Try.prog 46 #[V4 r] w fun e w' => e = .returned (.func (.func 82) #[] #[.pointer (some ⟨w.heap.size, 0, none⟩)]) ∧ At4 w' w.heap.size r ∧ w'.heap.size = w.heap.size + 1 ∧ Below w.heap.size w w' := by
  unfold V4
  go_enter Try.func46, Try.ntmps46
  go_wp2
  go_ret
  exact ⟨rfl, At4.new w r, by simp, (Below.refl _ _).alloc (Nat.le_refl _) _⟩

/-- Has a number the highest bit? -/
def lowB (r : Nat → Nat) : Bool := decide (9223372036854775808 ≤ r 3)

theorem and_top (a : Nat) (ha : a < 18446744073709551616) : (bits BinOp.and IntKind.u64 (a : Int) 9223372036854775808 != 0) = decide (9223372036854775808 ≤ a) := by
  have h := bits_and_u64_nat a 9223372036854775808 ha (by omega)
  have e : bits BinOp.and IntKind.u64 (a : Int) 9223372036854775808 = ((a &&& 9223372036854775808 : Nat) : Int) := h
  rw [e]
  have key : ∀ i, (a &&& 2 ^ 63).testBit i = (decide (i = 63) && a.testBit 63) := by
    intro i
    rw [Nat.testBit_and, Nat.testBit_two_pow]
    by_cases hi : i = 63
    · subst hi; simp
    · simp [hi, Ne.symm hi]
  by_cases hh : 9223372036854775808 ≤ a
  · have hb : a.testBit 63 = true := by rw [Nat.testBit_eq_decide_div_mod_eq]; simp; omega
    have : a &&& 9223372036854775808 = 9223372036854775808 := by
      apply Nat.eq_of_testBit_eq
      intro i
      have h3 := key i
      rw [show (9223372036854775808 : Nat) = 2 ^ 63 from rfl, h3, Nat.testBit_two_pow, hb]
      simp [eq_comm]
    rw [this]; simp [hh]
  · have hb : a.testBit 63 = false := by rw [Nat.testBit_eq_decide_div_mod_eq]; simp; omega
    have : a &&& 9223372036854775808 = 0 := by
      apply Nat.eq_of_testBit_eq
      intro i
      have h3 := key i
      rw [show (9223372036854775808 : Nat) = 2 ^ 63 from rfl, h3, hb]
      simp
    rw [this]; simp [hh]

theorem below_any (r : Nat → Nat) (hr : r 3 < 18446744073709551616) (w : World) :
    Calls Try.prog 48 #[V4 r] w fun e w' => e = .returned (.bool (lowB r)) ∧ Below w.heap.size w w' := by
  unfold V4
  go_enter Try.func48, Try.ntmps48
  go_wp2
  go_ret
  exact ⟨congrArg (fun b => Ending.returned (.bool b)) (and_top _ hr), (Below.refl _ _).alloc (Nat.le_refl _) _⟩

/-- The words with their places: what the iterator hands out. -/
def wenc (r : Nat → Nat) (x : Fin 4) : Array Value := #[.int .i64 x.val, .int .u64 (r x.val)]

theorem index_0 (r : Nat → Nat) (w : World) : (Instr.index 24 (.agg #[.int .u64 (r 0), .int .u64 (r 1), .int .u64 (r 2), .int .u64 (r 3)]) (.int .i64 (((0 : Nat) : Int)))).run Try.prog w = .ok (.int .u64 (r 0)) w := by kernel_rfl
theorem index_1 (r : Nat → Nat) (w : World) : (Instr.index 24 (.agg #[.int .u64 (r 0), .int .u64 (r 1), .int .u64 (r 2), .int .u64 (r 3)]) (.int .i64 (((1 : Nat) : Int)))).run Try.prog w = .ok (.int .u64 (r 1)) w := by kernel_rfl
theorem index_2 (r : Nat → Nat) (w : World) : (Instr.index 24 (.agg #[.int .u64 (r 0), .int .u64 (r 1), .int .u64 (r 2), .int .u64 (r 3)]) (.int .i64 (((2 : Nat) : Int)))).run Try.prog w = .ok (.int .u64 (r 2)) w := by kernel_rfl
theorem index_3 (r : Nat → Nat) (w : World) : (Instr.index 24 (.agg #[.int .u64 (r 0), .int .u64 (r 1), .int .u64 (r 2), .int .u64 (r 3)]) (.int .i64 (((3 : Nat) : Int)))).run Try.prog w = .ok (.int .u64 (r 3)) w := by kernel_rfl

theorem index_any (r : Nat → Nat) (k : Nat) (hk : k < 4) (w : World) :
    (Instr.index 24 (.agg #[.int .u64 (r 0), .int .u64 (r 1), .int .u64 (r 2), .int .u64 (r 3)]) (.int .i64 k)).run Try.prog w = .ok (.int .u64 (r k)) w := by
  match k, hk with
  | 0, _ => exact index_0 r w
  | 1, _ => exact index_1 r w
  | 2, _ => exact index_2 r w
  | 3, _ => exact index_3 r w

set_option maxHeartbeats 1000000 in
theorem words1_in (n : Nat) (hn : 1 ≤ n) (l Bt : Nat) (r : Nat → Nat) (J Jx : List (Fin 4) → World → Prop) (W : World)
    (hY : ∀ pre x W1, J pre W1 → pre.length < 4 → YieldAt Fence.wide (n - 1) Try.prog l (wenc r x) W1 fun e W' =>
      (e = .returned (.bool true) ∧ J (pre ++ [x]) W' ∧ True) ∨ (e = .returned (.bool false) ∧ Jx (pre ++ [x]) W'))
    (hT : At4 W Bt r) (h0 : J [] W) :
    CallsIn Fence.wide n Try.prog 82 #[.func (.yield l) #[] #[], .pointer (some ⟨Bt, 0, none⟩)] W fun e W' => (∃ v, e = .returned v) ∧
      ((∃ ys, ys = List.finRange 4 ∧ J ys W') ∨ (∃ pre, True ∧ Jx pre W')) := by
  have c0 := hT.cell 0 (by omega)
  have c1 := hT.cell 1 (by omega)
  have c2 := hT.cell 2 (by omega)
  have c3 := hT.cell 3 (by omega)
  refine callsIn_of_wp Try.func82 rfl trivial ?_ rfl
  simp only [Try.ntmps82, List.size_toArray, List.length_cons, List.length_nil, Nat.reduceAdd, Nat.reduceSub, Array.replicate_succ, Array.replicate_zero, List.push_toArray, List.append_toArray, List.nil_append, List.cons_append]
  gi_wp2
  clear c0 c1 c2 c3 hT
  gi_loopw [6] (fun v6 wr => ∃ k : Nat, k ≤ 4 ∧ v6 = .int .i64 k ∧ J ((List.finRange 4).take k) wr) (fun v6 _ => 4 - (intOf v6).toNat)
  case atStart => exact ⟨0, by omega, rfl, h0⟩
  case round =>
    obtain ⟨k, hk, rfl, hj⟩ := hrel
    by_cases hlt : k < 4
    · have hix := index_any r k hlt
      have hlen : ((List.finRange 4).take k).length < 4 := by simp; omega
      obtain ⟨fn, tmps, assign, body, hy, hR⟩ := hY _ ⟨k, hlt⟩ wr hj hlen
      dsimp only [wenc] at hy
      have e : (List.finRange 4).take k ++ [⟨k, hlt⟩] = (List.finRange 4).take (k + 1) := by
        rw [List.take_succ_eq_append_getElem (by simp; omega)]; simp
      rw [e] at hR
      have E := Lib.hid e
      clear e hlen hj
      gi_wp2
      refine hR.mono ?_
      rintro e W3 (⟨rfl, hJ3, _⟩ | ⟨rfl, hJx3⟩)
      · clear hR hy hix
        gi_wp2
        go_roundw
        case rel => exact ⟨k + 1, by omega, by go_num, hJ3⟩
        case measure => simp [intOf]; omega
      · gi_wp2
        refine bodyPost_ret (results_none rfl _ _ _) rfl ?_
        exact ⟨⟨_, rfl⟩, .inr ⟨_, trivial, hJx3⟩⟩
    · obtain rfl : k = 4 := by omega
      gi_wp2
      go_end0
      exact ⟨⟨_, rfl⟩, .inl ⟨_, rfl, hj⟩⟩

theorem words_stops (n : Nat) (hn : 1 ≤ n) (Bt : Nat) (r : Nat → Nat) (w : World) (hT : At4 w Bt r) :
    SeqStopsK Fence.wide n Try.prog 82 #[.pointer (some ⟨Bt, 0, none⟩)] (wenc r) (fun _ _ => True) (fun ys => ys = List.finRange 4) (fun _ => True) 4 w := fun l J Jx W hW _ _ hY h0 =>
  words1_in n hn l Bt r J Jx W hY ((hW.block Bt hT.lt).trans hT) h0

end Go.Proofs.Ytecgclkjglkkbaa
