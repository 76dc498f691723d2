/- Contracts of the small functions of package words (Count, runeKinds, kindOf, Blank), for every input. -/
import Derived.Test.YtbdiphffdmakoaaDoorRows
import Derived.WalkKit
import Derived.Outline
import Derived.Laws.RangeString
import Derived.Laws.RangeAny
import Derived.Lib.OthersKept
import Derived.Lib.Hide
import Derived.MapKept
import Derived.Carry
namespace Go.Proofs.YtbdiphffdmakoaaDoor
open Go Go.RowKit

/-- The runes of a text from a place on: place, rune, width. -/
def runesF (s : ByteArray) : Nat → Nat → List (Nat × Nat × Nat)
  | 0, _ => []
  | b + 1, pos => if pos < s.size then (pos, (Utf8.decode s pos).1, (Utf8.decode s pos).2) :: runesF s b (pos + (Utf8.decode s pos).2) else []

def runes (s : ByteArray) : List (Nat × Nat × Nat) := runesF s s.size 0

theorem width_pos (s : ByteArray) (pos : Nat) (h : pos < s.size) : 1 ≤ (Utf8.decode s pos).2 := by
  by_cases ha : (s[pos]'h).toNat < 128
  · rw [decode_ascii s pos h ha]
    exact Nat.le_refl _
  · exact (decode_high s pos h (by omega)).2

theorem runesF_end (s : ByteArray) (b pos : Nat) (h : ¬ pos < s.size) : runesF s b pos = [] := by
  cases b with
  | zero => rfl
  | succ b => simp [runesF, h]

theorem runesF_len (s : ByteArray) (b pos : Nat) : (runesF s b pos).length + pos ≤ s.size ∨ (runesF s b pos) = [] := by
  induction b generalizing pos with
  | zero => exact .inr rfl
  | succ b ih =>
    by_cases h : pos < s.size
    · left
      simp only [runesF, h, if_true, List.length_cons]
      have := width_pos s pos h
      rcases ih (pos + (Utf8.decode s pos).2) with h1 | h1
      · omega
      · rw [h1]; simp; omega
    · right; exact runesF_end s _ _ h

theorem runes_len (s : ByteArray) : (runes s).length ≤ s.size := by
  rcases runesF_len s s.size 0 with h | h
  · unfold runes; omega
  · unfold runes; rw [h]; simp

set_option maxRecDepth 100000 in
theorem count_any (s : ByteArray) (w : World) (hs : s.size ≤ maxLen) :
    Calls Tryd.prog 14 #[.string s] w fun e w' => e = .returned (.int .i64 (runes s).length) ∧ ∃ pos, w' = w.iter s pos := by
  unfold maxLen at hs
  go_enter Tryd.func14, Tryd.ntmps14
  go_wp2
  go_loopw [3] (fun n w' => ∃ (pos b k : Nat), w' = w.iter s pos ∧ n = .int .i64 k ∧ k + (runesF s b pos).length = (runes s).length ∧ s.size ≤ pos + b) (fun _ w' => s.size - w'.iterPos w.heap.size)
  case atStart => exact ⟨0, s.size, 0, rfl, rfl, by simp [runes], by omega⟩
  case round =>
    obtain ⟨pos, b, k, rfl, rfl, hc, hb⟩ := hrel
    have hl := runes_len s
    by_cases hp : pos < s.size
    · have hnx : ∀ ty, (Instr.next (.pointer (some ⟨w.heap.size, 0, none⟩)) true ty).run Tryd.prog (w.iter s pos) = _ := fun ty => run_next_any w s pos ty hp
      have hwd := width_pos s pos hp
      cases b with
      | zero => omega
      | succ b =>
        have hc' : k + 1 + (runesF s b (pos + (Utf8.decode s pos).2)).length = (runes s).length := by
          rw [← hc]; simp [runesF, hp]; omega
        have hk : k + 1 ≤ s.size := by omega
        have HC := Lib.hid hc'
        clear hc hc'
        go_wp2
        go_roundw
        case rel => exact ⟨pos + (Utf8.decode s pos).2, b, k + 1, rfl, by go_num, HC.out, by omega⟩
        case measure => simp; omega
    · have hnx : ∀ ty, (Instr.next (.pointer (some ⟨w.heap.size, 0, none⟩)) true ty).run Tryd.prog (w.iter s pos) = _ := fun ty => run_next_end w s pos ty hp
      rw [runesF_end s b pos hp] at hc
      have hc' : k = (runes s).length := by simpa using hc
      clear hc
      subst hc'
      go_wp2
      go_ret
      exact ⟨rfl, _, rfl⟩

end Go.Proofs.YtbdiphffdmakoaaDoor
