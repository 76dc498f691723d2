/- Plain facts of texts joined: the runes of two texts behind each other, where the first has no bad rune. -/
import Derived.Test.YtbdiphffdmakoaaDoorP1
namespace Go.Proofs.YtbdiphffdmakoaaDoor
open Go Go.RowKit

theorem get_left (x y : ByteArray) (k : Nat) (h : k < x.size) : (x ++ y).get! k = x.get! k := by
  rw [get_list, get_list]
  have e : (x ++ y).data.toList = x.data.toList ++ y.data.toList := by simp
  rw [e, List.getElem?_append_left (by simpa using h)]

theorem app_size (x y : ByteArray) : (x ++ y).size = x.size + y.size := by simp

/-- A rune that is not told as U+FFFD is told by its own bytes, whatever comes behind. -/
theorem decode_left (x y : ByteArray) (pos : Nat) (h : pos < x.size) (hne : (Utf8.decode x pos).1 ≠ 65533) : Utf8.decode (x ++ y) pos = Utf8.decode x pos := by
  have g0 : (x ++ y).get! (pos + 0) = x.get! (pos + 0) := get_left x y _ (by omega)
  have hc : ∀ k, pos + k < x.size → (x ++ y).get! (pos + k) = x.get! (pos + k) := fun k hk => get_left x y _ hk
  have hs : ∀ k, pos + k < x.size → pos + k < (x ++ y).size := fun k hk => by rw [app_size]; omega
  revert hne
  unfold Utf8.decode
  simp only [g0]
  split
  · intro _; rfl
  · split
    · rename_i h1 h2
      simp only [Bool.and_eq_true, decide_eq_true_eq, beq_iff_eq] at h2
      obtain ⟨a1, a2, a3⟩ := h2
      rw [hc 1 a2]
      intro _
      rw [if_pos]
      simp only [Bool.and_eq_true, decide_eq_true_eq, beq_iff_eq]
      exact ⟨a1, hs 1 a2, a3⟩
    · rename_i h1 h2
      split
      · rename_i h3
        simp only [Bool.and_eq_true, decide_eq_true_eq, beq_iff_eq] at h3
        obtain ⟨⟨a1, a2, a3⟩, a4, a5⟩ := h3
        rw [hc 1 a2, hc 2 a4]
        intro _
        rw [if_neg, if_pos]
        · simp only [Bool.and_eq_true, decide_eq_true_eq, beq_iff_eq]
          exact ⟨⟨a1, hs 1 a2, a3⟩, hs 2 a4, a5⟩
        · simp only [Bool.and_eq_true, decide_eq_true_eq, beq_iff_eq]
          rintro ⟨b1, _⟩
          omega
      · rename_i h3
        split
        · rename_i h4
          simp only [Bool.and_eq_true, decide_eq_true_eq, beq_iff_eq] at h4
          obtain ⟨⟨⟨a1, a2, a3⟩, a4, a5⟩, a6, a7⟩ := h4
          rw [hc 1 a2, hc 2 a4, hc 3 a6]
          intro _
          rw [if_neg, if_neg, if_pos]
          · simp only [Bool.and_eq_true, decide_eq_true_eq, beq_iff_eq]
            exact ⟨⟨⟨a1, hs 1 a2, a3⟩, hs 2 a4, a5⟩, hs 3 a6, a7⟩
          · simp only [Bool.and_eq_true, decide_eq_true_eq, beq_iff_eq]
            rintro ⟨⟨b1, _⟩, _⟩
            omega
          · simp only [Bool.and_eq_true, decide_eq_true_eq, beq_iff_eq]
            rintro ⟨b1, _⟩
            omega
        · intro hne
          exact absurd rfl hne

theorem ext_right (x y : ByteArray) (p : Nat) : (x ++ y).extract (x.size + p) (x ++ y).size = y.extract p y.size := by
  apply ba_ext
  rw [Lib.extract_to_end, Lib.extract_to_end]
  have e : (x ++ y).data.toList = x.data.toList ++ y.data.toList := by simp
  have hl : x.data.toList.length = x.size := by simp
  rw [e, List.drop_append, List.drop_eq_nil_of_le (by omega), hl, show x.size + p - x.size = p by omega, List.nil_append]

theorem decode_right (x y : ByteArray) (p : Nat) (h : p ≤ y.size) : Utf8.decode (x ++ y) (x.size + p) = Utf8.decode y p := by
  rw [← decode_ext (x ++ y) (x.size + p) (by rw [app_size]; omega), ext_right, decode_ext y p h]

def shiftR (d : Nat) (r : Nat × Nat × Nat) : Nat × Nat × Nat := (r.1 + d, r.2)

theorem runesF_fuel (s : ByteArray) : ∀ (f g pos : Nat), s.size ≤ pos + f → s.size ≤ pos + g → runesF s f pos = runesF s g pos
  | 0, g, pos, h1, h2 => by rw [runesF_end s g pos (by omega)]; rfl
  | f + 1, 0, pos, h1, h2 => by rw [runesF_end s _ pos (by omega)]; rfl
  | f + 1, g + 1, pos, h1, h2 => by
    by_cases hp : pos < s.size
    · have hw := width_pos s pos hp
      simp only [runesF, hp, if_true]
      rw [runesF_fuel s f g _ (by omega) (by omega)]
    · rw [runesF_end s _ pos hp, runesF_end s _ pos hp]

theorem runesF_right (x y : ByteArray) : ∀ (f p : Nat), p ≤ y.size → runesF (x ++ y) f (x.size + p) = (runesF y f p).map (shiftR x.size)
  | 0, p, _ => rfl
  | f + 1, p, h => by
    by_cases hp : p < y.size
    · have hp' : x.size + p < (x ++ y).size := by rw [app_size]; omega
      have hw := width_le y p hp
      simp only [runesF, hp, hp', if_true, List.map_cons, decode_right x y p h]
      rw [Nat.add_assoc, runesF_right x y f _ hw]
      simp [shiftR, Nat.add_comm]
    · rw [runesF_end _ _ _ (by rw [app_size]; omega), runesF_end _ _ _ hp]
      rfl

/-- No rune of the text is told as U+FFFD. -/
def Good (l : List (Nat × Nat × Nat)) : Prop := ∀ r ∈ l, r.2.1 ≠ 65533

theorem runesF_left (x y : ByteArray) (f : Nat) : ∀ (g pos : Nat), pos ≤ x.size → x.size ≤ pos + f → (x ++ y).size ≤ pos + g → Good (runesF x f pos) → runesF (x ++ y) g pos = runesF x f pos ++ (runes y).map (shiftR x.size) := by
  have hend : ∀ (f g pos : Nat), pos ≤ x.size → ¬ pos < x.size → (x ++ y).size ≤ pos + g → runesF (x ++ y) g pos = runesF x f pos ++ (runes y).map (shiftR x.size) := by
    intro f g pos hx hp hg
    have he : pos = x.size := by omega
    rw [runesF_end x f pos hp, List.nil_append, he]
    have h0 := runesF_right x y g 0 (by omega)
    rw [Nat.add_zero] at h0
    rw [h0, runesF_fuel y g y.size 0 (by rw [app_size] at hg; omega) (by omega)]
    rfl
  induction f with
  | zero => intro g pos hx hf hg _; exact hend 0 g pos hx (by omega) hg
  | succ f ih =>
    intro g pos hx hf hg hgood
    by_cases hp : pos < x.size
    · cases g with
      | zero => rw [app_size] at hg; omega
      | succ g =>
        have hw := width_le x pos hp
        have hw1 := width_pos x pos hp
        have hp' : pos < (x ++ y).size := by rw [app_size]; omega
        simp only [runesF, hp, hp', if_true] at hgood ⊢
        have hne : (Utf8.decode x pos).1 ≠ 65533 := hgood (pos, (Utf8.decode x pos).1, (Utf8.decode x pos).2) List.mem_cons_self
        rw [decode_left x y pos hp hne]
        rw [ih g _ hw (by omega) (by omega) (fun r hr => hgood r (List.mem_cons_of_mem _ hr))]
        rfl
    · exact hend _ g pos hx hp hg

theorem runes_append (x y : ByteArray) (h : Good (runes x)) : runes (x ++ y) = runes x ++ (runes y).map (shiftR x.size) :=
  runesF_left x y x.size (x ++ y).size 0 (by omega) (by omega) (by omega) h

end Go.Proofs.YtbdiphffdmakoaaDoor
