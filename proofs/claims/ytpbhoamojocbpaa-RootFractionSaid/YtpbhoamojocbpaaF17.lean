/- Rest and Left, where they are left by an error. -/
import Derived.Test.YtpbhoamojocbpaaF16
import Derived.Test.YtpbhoamojocbpaaE14
namespace Go.Proofs.Ytpbhoamojocbpaa
open Go Go.RowKit
set_option linter.unusedSimpArgs false
set_option linter.unusedVariables false

/-- A block with a wide number; a pointer to a block. -/
def wo (x : Nat) : Obj := .cells (wv x).cells 24 (0, 0)
def io (k : Int) : Obj := .cells #[.int .i64 k] 3 (0, 0)
def pt (b : Nat) : Value := .pointer (some { block := b, off := 0 })
theorem p64_raw (x y : Nat) (v : Int) : runP Try.prog 64 #[pt 1001, pt 1000] [(1001, wo y), (1000, wo x)] [] [(53, errs v)] [] =
    some (errs v, [(1001, wo y), (1000, wo x)], [PureX Try.prog 53 #[wv x, wv y] (errs v)]) := by kernel_rfl
theorem p67_raw (x : Nat) (k v : Int) : runP Try.prog 67 #[pt 1000, pt 1001] [(1001, io k), (1000, wo x)] [] [(68, errs v)] [] =
    some (errs v, [(1001, io k), (1000, wo x)], [PureX Try.prog 68 #[.int .i64 k] (errs v)]) := by kernel_rfl
theorem qrest_pan (x y : Nat) (v : Int) : runB Try.prog 18 #[wv x, wv y] [] [] [] [(64, errs v, [(1001, wo y), (1000, wo x)])] =
    some (rt (tp [wv 0, .int .i64 v]), [], [CallsV Try.prog (.func 64) #[pt 1001, pt 1000] [(1001, wo y), (1000, wo x)] (errs v) [(1001, wo y), (1000, wo x)]]) := by kernel_rfl
theorem left_pan (x : Nat) (k v : Int) : runB Try.prog 20 #[wv x, .int .i64 k] [] [] [] [(67, errs v, [(1001, io k), (1000, wo x)])] =
    some (rt (tp [wv 0, .int .i64 v]), [], [CallsV Try.prog (.func 67) #[pt 1000, pt 1001] [(1001, io k), (1000, wo x)] (errs v) [(1001, io k), (1000, wo x)]]) := by kernel_rfl
theorem rst_pan {x y v : Int} (h : PureX Try.prog 53 #[wz x, wz y] (errs v)) : PureX Try.prog 18 #[wz x, wz y] (rt (tp [wz 0, .int .i64 v])) := by
  have hc := runP_calls mix (p64_raw (nz x) (nz y) v) ⟨h, trivial⟩ (by kernel_rfl) (by kernel_rfl)
  exact runB_pure mix (qrest_pan (nz x) (nz y) v) ⟨hc, trivial⟩ rfl rfl
theorem lft_pan {x k v : Int} (h : PureX Try.prog 68 #[.int .i64 k] (errs v)) : PureX Try.prog 20 #[wz x, .int .i64 k] (rt (tp [wz 0, .int .i64 v])) := by
  have hc := runP_calls mix (p67_raw (nz x) k v) ⟨h, trivial⟩ (by kernel_rfl) (by kernel_rfl)
  exact runB_pure mix (left_pan (nz x) k v) ⟨hc, trivial⟩ rfl rfl
theorem rst_zero {x : Int} (hx : inR x) : PureX Try.prog 18 #[wz x, wz 0] (rt (tp [wz 0, .int .i64 30])) := rst_pan (divide_zero hx)
theorem rst_over {x y : Int} (hx : inR x) (hy : inR y) (h0 : y ≠ 0) (h : x = least ∨ y = least) : PureX Try.prog 18 #[wz x, wz y] (rt (tp [wz 0, .int .i64 20])) := rst_pan (divide_over hx hy h0 h)

end Go.Proofs.Ytpbhoamojocbpaa
