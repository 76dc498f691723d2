/- Plain facts of texts cut at a place: what is told from there on is told of the rest. -/
import Derived.Test.YtbdiphffdmakoaaDoorW8
namespace Go.Proofs.YtbdiphffdmakoaaDoor
open Go Go.RowKit

theorem ext_size (s : ByteArray) (pos : Nat) : (s.extract pos s.size).size = s.size - pos := by
  simp

theorem ba_ext {a b : ByteArray} (h : a.data.toList = b.data.toList) : a = b := by
  cases a; cases b; congr 1; exact Array.ext' h

theorem get_list (s : ByteArray) (k : Nat) : s.get! k = (s.data.toList[k]?).getD 0 := by
  cases s with
  | mk a =>
    simp [ByteArray.get!, getElem!_def]
    cases h : a[k]? <;> rfl

theorem get_ext (s : ByteArray) (pos k : Nat) : (s.extract pos s.size).get! k = s.get! (pos + k) := by
  rw [get_list, get_list, Lib.extract_to_end, List.getElem?_drop]

theorem decode_ext (s : ByteArray) (pos : Nat) (h : pos ≤ s.size) : Utf8.decode (s.extract pos s.size) 0 = Utf8.decode s pos := by
  have h1 : ∀ k, (s.extract pos s.size).get! (0 + k) = s.get! (pos + k) := fun k => by rw [Nat.zero_add]; exact get_ext s pos k
  have h2 : ∀ k, decide (0 + k < (s.extract pos s.size).size) = decide (pos + k < s.size) := fun k => by rw [ext_size]; congr 1; apply propext; omega
  unfold Utf8.decode
  simp only [h1, h2]

theorem width_le (s : ByteArray) (pos : Nat) (h : pos < s.size) : pos + (Utf8.decode s pos).2 ≤ s.size := by
  unfold Utf8.decode
  simp only []
  split
  · simp; omega
  · split
    · rename_i h2
      simp at h2
      split <;> simp <;> omega
    · split
      · rename_i h2
        simp at h2
        split <;> simp <;> omega
      · split
        · rename_i h2
          simp at h2
          split <;> simp <;> omega
        · simp; omega

theorem ext_ext (s : ByteArray) (pos k : Nat) : (s.extract pos s.size).extract k (s.extract pos s.size).size = s.extract (pos + k) s.size := by
  apply ba_ext
  rw [Lib.extract_to_end, Lib.extract_to_end, Lib.extract_to_end, List.drop_drop]

theorem ext_all (s : ByteArray) : s.extract 0 s.size = s := by
  simp

theorem ext_take (s : ByteArray) (pos k : Nat) : (s.extract pos s.size).extract 0 k = s.extract pos (pos + k) := by
  apply ba_ext
  rw [Lib.extract_data, Lib.extract_to_end, Lib.extract_data]
  simp

theorem ext_append (s : ByteArray) (a b c : Nat) (h1 : a ≤ b) (h2 : b ≤ c) : s.extract a b ++ s.extract b c = s.extract a c := by
  simp [Nat.min_eq_left h1, Nat.max_eq_right h2]

end Go.Proofs.YtbdiphffdmakoaaDoor
