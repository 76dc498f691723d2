/- Plain facts of rows of words and blanks that grow at their end. -/
import Derived.Test.YtbdiphffdmakoaaDoorP4
namespace Go.Proofs.YtbdiphffdmakoaaDoor
open Go Go.RowKit

theorem toksText_snoc : ∀ (l : List Tok) (t : Tok), toksText (l ++ [t]) = toksText l ++ t.text
  | [], t => by
    simp only [List.nil_append, toksText]
    exact (ByteArray.append_empty).trans (ByteArray.empty_append).symm
  | u :: l, t => by
    simp only [List.cons_append, toksText]
    rw [toksText_snoc l t, ByteArray.append_assoc]

theorem toksWords_snoc_sp : ∀ (l : List Tok) (n : Nat) (b : ByteArray), toksWords n (l ++ [.sp b]) = toksWords n l
  | [], _, _ => rfl
  | .sp _ :: l, n, b => by simp only [List.cons_append, toksWords]; exact toksWords_snoc_sp l (n + 1) b
  | .wd x :: l, n, b => by simp only [List.cons_append, toksWords]; rw [toksWords_snoc_sp l _ b]

theorem toksWords_snoc_wd : ∀ (l : List Tok) (n : Nat) (x : ByteArray), (∀ t ∈ l, t.Fine) → toksWords n (l ++ [.wd x]) = toksWords n l ++ [(n + (runes (toksText l)).length, x)]
  | [], n, x, _ => rfl
  | .sp b :: l, n, x, h => by
    have hb := h (.sp b) (by simp)
    obtain ⟨_, c, hr, _⟩ := hb
    simp only [List.cons_append, toksWords]
    rw [toksWords_snoc_wd l (n + 1) x (fun t ht => h t (by simp [ht])), toksText, runes_tok (.sp b) _ (h _ (by simp)), List.length_append, List.length_map]
    simp only [Tok.text, hr, List.length_singleton]
    rw [show n + 1 + (runes (toksText l)).length = n + (1 + (runes (toksText l)).length) by omega]
  | .wd y :: l, n, x, h => by
    simp only [List.cons_append, toksWords]
    rw [toksWords_snoc_wd l _ x (fun t ht => h t (by simp [ht])), toksText, runes_tok (.wd y) _ (h _ (by simp)), List.length_append, List.length_map]
    simp only [Tok.text]
    rw [show n + (runes y).length + (runes (toksText l)).length = n + ((runes y).length + (runes (toksText l)).length) by omega]

/-- A row ends with a blank, or is empty. -/
def EndSp (l : List Tok) : Prop := ∀ l' x, l ≠ l' ++ [.wd x]

theorem endSp_snoc (l : List Tok) (b : ByteArray) : EndSp (l ++ [.sp b]) := fun l' x h => by
  have := List.append_inj' h rfl
  simp at this

theorem apart_snoc_sp : ∀ (l : List Tok) (b : ByteArray), Apart l → Apart (l ++ [.sp b])
  | [], _, _ => trivial
  | [.sp _], _, _ => trivial
  | [.wd _], _, _ => trivial
  | .sp _ :: u :: l, b, h => apart_snoc_sp (u :: l) b h
  | .wd _ :: .sp c :: l, b, h => apart_snoc_sp (.sp c :: l) b h
  | .wd _ :: .wd _ :: l, b, h => h.elim

theorem apart_snoc_wd : ∀ (l : List Tok) (x : ByteArray), Apart l → EndSp l → Apart (l ++ [.wd x])
  | [], _, _, _ => trivial
  | [.sp _], _, _, _ => trivial
  | [.wd y], _, _, h => absurd rfl (h [] y)
  | .sp c :: u :: l, x, h, he => apart_snoc_wd (u :: l) x h (fun l' y e => he (.sp c :: l') y (by rw [e]; rfl))
  | .wd z :: .sp c :: l, x, h, he => apart_snoc_wd (.sp c :: l) x h (fun l' y e => he (.wd z :: l') y (by rw [e]; rfl))
  | .wd _ :: .wd _ :: l, b, h, _ => h.elim

/-- The five blanks. -/
def blankS : Nat → ByteArray
  | 0 => ⟨#[32]⟩
  | 1 => ⟨#[9]⟩
  | 2 => ⟨#[10]⟩
  | 3 => ⟨#[194, 160]⟩
  | _ => ⟨#[227, 128, 128]⟩

theorem blankS_fine (j : Nat) : (Tok.sp (blankS j)).Fine := by
  match j with
  | 0 => exact ⟨by decide, 32, rfl, rfl⟩
  | 1 => exact ⟨by decide, 9, rfl, rfl⟩
  | 2 => exact ⟨by decide, 10, rfl, rfl⟩
  | 3 => exact ⟨by decide, 160, rfl, rfl⟩
  | j + 4 => exact (⟨by decide, 12288, rfl, rfl⟩ : (Tok.sp ⟨#[227, 128, 128]⟩).Fine)

theorem blankS_size (j : Nat) : (blankS j).size ≤ 3 := by
  match j with
  | 0 => decide
  | 1 => decide
  | 2 => decide
  | 3 => decide
  | j + 4 => show (⟨#[227, 128, 128]⟩ : ByteArray).size ≤ 3; decide

end Go.Proofs.YtbdiphffdmakoaaDoor
