/- Plain facts of Split's answer where a rune may not stand. -/
import Derived.Test.YtbdiphffdmakoaaDoorP2
namespace Go.Proofs.YtbdiphffdmakoaaDoor
open Go Go.RowKit

theorem badF_none : ∀ (l : List (Nat × Nat × Nat)) (n : Nat), badF l n = none → ∀ r ∈ l, kindR r.2.1 ≠ 2
  | [], _, _, r, hr => by cases hr
  | (p, c, k) :: l, n, h, r, hr => by
    simp only [badF] at h
    split at h
    · cases h
    · rename_i hk
      rcases List.mem_cons.1 hr with rfl | hr
      · exact hk
      · exact badF_none l (n + 1) h r hr

theorem badF_none_mk : ∀ (l : List (Nat × Nat × Nat)) (n : Nat), (∀ r ∈ l, kindR r.2.1 ≠ 2) → badF l n = none
  | [], _, _ => rfl
  | (p, c, k) :: l, n, h => by
    simp only [badF]
    rw [if_neg (h (p, c, k) (List.mem_cons_self))]
    exact badF_none_mk l (n + 1) (fun r hr => h r (List.mem_cons_of_mem _ hr))

theorem badF_append : ∀ (l l' : List (Nat × Nat × Nat)) (n : Nat), badF l n = none → badF (l ++ l') n = badF l' (n + l.length)
  | [], l', n, _ => rfl
  | (p, c, k) :: l, l', n, h => by
    simp only [badF, List.cons_append] at h ⊢
    split at h
    · cases h
    · rename_i hk
      rw [if_neg hk, badF_append l l' (n + 1) h]
      congr 1
      simp; omega

theorem badF_shift (d : Nat) : ∀ (l : List (Nat × Nat × Nat)) (n : Nat), badF (l.map (shiftR d)) n = badF l n
  | [], n => rfl
  | (p, c, k) :: l, n => by
    simp only [badF, List.map_cons, shiftR]
    rw [← badF_shift d l (n + 1)]

theorem fine_none (s : ByteArray) (h : (splitR s).2.2 = 0) : badF (runes s) 0 = none := by
  unfold splitR at h
  cases hb : badF (runes s) 0 with
  | none => rfl
  | some i => rw [hb] at h; simp [splitOut] at h

theorem kind_err : kindR 65533 = 2 := rfl

theorem good_of_none (l : List (Nat × Nat × Nat)) (h : badF l 0 = none) : Good l := fun r hr e => by
  have := badF_none l 0 h r hr
  rw [e] at this
  exact this rfl

theorem runes_cons (s : ByteArray) (h : 0 < s.size) : ∃ r, runes s = (0, (Utf8.decode s 0).1, (Utf8.decode s 0).2) :: r := by
  unfold runes
  cases hs : s.size with
  | zero => omega
  | succ n => exact ⟨runesF s n (0 + (Utf8.decode s 0).2), by simp [runesF, h]⟩

def badS : Nat → ByteArray
  | 0 => ⟨#[255]⟩
  | 1 => ⟨#[0]⟩
  | 2 => ⟨#[127]⟩
  | 3 => ⟨#[239, 191, 189]⟩
  | 4 => ⟨#[195, 40]⟩
  | _ => ⟨#[13]⟩

theorem bad_ascii (x y : ByteArray) (n : Nat) (h : 0 < x.size) (hd : Utf8.decode x 0 = (n, 1)) (hn : n ≠ 65533) (hk : kindR n = 2) : kindR (Utf8.decode (x ++ y) 0).1 = 2 := by
  rw [decode_left x y 0 h (by rw [hd]; exact hn), hd]
  exact hk

theorem bad_first (j : Nat) (y : ByteArray) : kindR (Utf8.decode (badS j ++ y) 0).1 = 2 := by
  match j with
  | 0 =>
    have g0 : ((⟨#[255]⟩ : ByteArray) ++ y).get! (0 + 0) = 255 := (get_left _ _ _ (by decide)).trans rfl
    show kindR (Utf8.decode ((⟨#[255]⟩ : ByteArray) ++ y) 0).1 = 2
    unfold Utf8.decode
    simp only [g0]
    rfl
  | 1 => exact bad_ascii ⟨#[0]⟩ y 0 (by decide) rfl (by decide) rfl
  | 2 => exact bad_ascii ⟨#[127]⟩ y 127 (by decide) rfl (by decide) rfl
  | 3 =>
    have g0 : ((⟨#[239, 191, 189]⟩ : ByteArray) ++ y).get! (0 + 0) = 239 := (get_left _ _ _ (by decide)).trans rfl
    have g1 : ((⟨#[239, 191, 189]⟩ : ByteArray) ++ y).get! (0 + 1) = 191 := (get_left _ _ _ (by decide)).trans rfl
    have g2 : ((⟨#[239, 191, 189]⟩ : ByteArray) ++ y).get! (0 + 2) = 189 := (get_left _ _ _ (by decide)).trans rfl
    have s1 : 0 + 1 < ((⟨#[239, 191, 189]⟩ : ByteArray) ++ y).size := by rw [app_size]; show 0 + 1 < 3 + _; omega
    have s2 : 0 + 2 < ((⟨#[239, 191, 189]⟩ : ByteArray) ++ y).size := by rw [app_size]; show 0 + 2 < 3 + _; omega
    show kindR (Utf8.decode ((⟨#[239, 191, 189]⟩ : ByteArray) ++ y) 0).1 = 2
    unfold Utf8.decode
    simp only [g0, g1, g2, s1, s2]
    rfl
  | 4 =>
    have g0 : ((⟨#[195, 40]⟩ : ByteArray) ++ y).get! (0 + 0) = 195 := (get_left _ _ _ (by decide)).trans rfl
    have g1 : ((⟨#[195, 40]⟩ : ByteArray) ++ y).get! (0 + 1) = 40 := (get_left _ _ _ (by decide)).trans rfl
    have s1 : 0 + 1 < ((⟨#[195, 40]⟩ : ByteArray) ++ y).size := by rw [app_size]; show 0 + 1 < 2 + _; omega
    show kindR (Utf8.decode ((⟨#[195, 40]⟩ : ByteArray) ++ y) 0).1 = 2
    unfold Utf8.decode
    simp only [g0, g1, s1]
    rfl
  | j + 5 => exact bad_ascii ⟨#[13]⟩ y 13 (by decide) rfl (by decide) rfl

theorem badS_pos (j : Nat) : 0 < (badS j).size ∧ (badS j).size ≤ 3 := by
  match j with
  | 0 => decide
  | 1 => decide
  | 2 => decide
  | 3 => decide
  | 4 => decide
  | j + 5 => exact (by decide : 0 < (⟨#[13]⟩ : ByteArray).size ∧ (⟨#[13]⟩ : ByteArray).size ≤ 3)

/-- Where a rune may not stand: no words, and how many runes are ahead of it. -/
theorem bad_spec (x y : ByteArray) (j : Nat) (hf : (splitR x).2.2 = 0) : splitR (x ++ badS j ++ y) = ([], (runes x).length, 10) := by
  have hn := fine_none x hf
  have hp := badS_pos j
  obtain ⟨r, hr⟩ := runes_cons (badS j ++ y) (by rw [app_size]; omega)
  have e : x ++ badS j ++ y = x ++ (badS j ++ y) := ByteArray.append_assoc
  unfold splitR
  rw [e, runes_append x _ (good_of_none _ hn), badF_append _ _ _ hn, badF_shift, hr]
  simp [badF, bad_first j y, splitOut]

theorem fine_spec (x : ByteArray) (hf : (splitR x).2.2 = 0) : (splitR x).2.1 = (runes x).length := by
  unfold splitR
  rw [fine_none x hf]
  rfl

end Go.Proofs.YtbdiphffdmakoaaDoor
