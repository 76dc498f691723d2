/- Plain facts of texts made of words and blanks: how they are split. -/
import Derived.Test.YtbdiphffdmakoaaDoorP3
namespace Go.Proofs.YtbdiphffdmakoaaDoor
open Go Go.RowKit

/-! ### A text that is one word -/

/-- A text of runes that may stand and are no blanks, not empty. -/
def IsWord (x : ByteArray) : Prop := 0 < x.size ∧ ∀ r ∈ runes x, kindR r.2.1 = 0

/-- What the document's Stands answers. -/
def standsR (s : ByteArray) : Bool := (splitR s).2.2 == 0 && ((splitR s).1.length == 1 && decide ((((splitR s).1.map (·.2))[0]?).getD ⟨#[]⟩ = s))

theorem ext_len_le (s : ByteArray) (b e : Nat) : (s.extract b e).size ≤ s.size - b := by
  have h : (s.extract b e).data.toList.length = ((s.data.toList.drop b).take (e - b)).length := by rw [Lib.extract_data]
  have h1 : (s.extract b e).data.toList.length = (s.extract b e).size := Array.length_toList
  have h2 : s.data.toList.length = s.size := by simp
  rw [List.length_take, List.length_drop] at h
  omega

theorem ext_len_lt (s : ByteArray) (b p : Nat) (h : p < s.size) (hb : b ≤ p) : (s.extract b p).size < s.size - b := by
  have h0 : (s.extract b p).data.toList.length = ((s.data.toList.drop b).take (p - b)).length := by rw [Lib.extract_data]
  have h1 : (s.extract b p).data.toList.length = (s.extract b p).size := Array.length_toList
  have h2 : s.data.toList.length = s.size := by simp
  rw [List.length_take, List.length_drop] at h0
  omega

theorem words_small (s : ByteArray) : ∀ (f pos a b n : Nat) (inside : Bool), b ≤ pos → ∀ x ∈ wordsF s (runesF s f pos) a b n inside, x.2.size ≤ s.size - (if inside then b else pos)
  | 0, pos, a, b, n, true, hb, x, hx => by
    simp [runesF, wordsF] at hx; subst hx; simp only [if_true]; exact ext_len_le s b _
  | 0, pos, a, b, n, false, hb, x, hx => by simp [runesF, wordsF] at hx
  | f + 1, pos, a, b, n, inside, hb, x, hx => by
    by_cases hp : pos < s.size
    · have hw := width_pos s pos hp
      simp only [runesF, hp, if_true, wordsF] at hx
      cases inside with
      | true =>
        simp only [if_true] at hx ⊢
        split at hx
        · rcases List.mem_cons.1 hx with rfl | hx
          · exact ext_len_le s b _
          · have := words_small s f _ a b (n + 1) false (by omega) x hx
            simp only [Bool.false_eq_true, if_false] at this
            omega
        · have := words_small s f _ a b (n + 1) true (by omega) x hx
          simpa using this
      | false =>
        simp only [Bool.false_eq_true, if_false] at hx ⊢
        split at hx
        · have := words_small s f _ a b (n + 1) false (by omega) x hx
          simp only [Bool.false_eq_true, if_false] at this
          omega
        · have := words_small s f _ n pos (n + 1) true (by omega) x hx
          simpa using this
    · rw [runesF_end s _ pos hp] at hx
      cases inside with
      | true => simp [wordsF] at hx; subst hx; simp only [if_true]; exact ext_len_le s b _
      | false => simp [wordsF] at hx

/-- With a blank among the runes no word that began at b is as long as the rest. -/
theorem words_less (s : ByteArray) : ∀ (f pos a b n : Nat), b ≤ pos → (∃ r ∈ runesF s f pos, kindR r.2.1 = 1) → ∀ x ∈ wordsF s (runesF s f pos) a b n true, x.2.size < s.size - b
  | 0, pos, a, b, n, hb, he, x, hx => by obtain ⟨r, hr, _⟩ := he; cases hr
  | f + 1, pos, a, b, n, hb, he, x, hx => by
    by_cases hp : pos < s.size
    · have hw := width_pos s pos hp
      simp only [runesF, hp, if_true, wordsF] at hx he
      split at hx
      · rcases List.mem_cons.1 hx with rfl | hx
        · exact ext_len_lt s b pos hp hb
        · have := words_small s f _ a b (n + 1) false (by omega) x hx
          simp only [Bool.false_eq_true, if_false] at this
          omega
      · rename_i hk
        refine words_less s f _ a b (n + 1) (by omega) ?_ x hx
        obtain ⟨r, hr, h1⟩ := he
        rcases List.mem_cons.1 hr with rfl | hr
        · exact absurd h1 hk
        · exact ⟨r, hr, h1⟩
    · rw [runesF_end s _ pos hp] at he
      obtain ⟨r, hr, _⟩ := he
      cases hr

theorem kind_cases (c : Int) : kindR c = 0 ∨ kindR c = 1 ∨ kindR c = 2 := by
  unfold kindR
  split
  · simp
  · split <;> simp

theorem word_of_stands (s : ByteArray) (h : standsR s = true) : IsWord s := by
  unfold standsR at h
  simp only [Bool.and_eq_true, beq_iff_eq, decide_eq_true_eq] at h
  obtain ⟨h0, h1, h2⟩ := h
  have hn := fine_none s h0
  have hsp : (splitR s).1 = wordsR s := by unfold splitR; rw [hn]; rfl
  rw [hsp] at h1 h2
  match hw : wordsR s, h1 with
  | [(a, y)], _ =>
    rw [hw] at h2
    obtain rfl : y = s := by simpa using h2
    have hmem : (a, y) ∈ wordsF y (runesF y y.size 0) 0 0 0 false := by
      have : (a, y) ∈ wordsR y := by rw [hw]; simp
      exact this
    cases hs : y.size with
    | zero => rw [hs] at hmem; simp [runesF, wordsF] at hmem
    | succ n =>
      have hp : 0 < y.size := by omega
      have hwp := width_pos y 0 hp
      refine ⟨by omega, fun r hr => ?_⟩
      have hk2 := badF_none _ 0 hn r hr
      rcases kind_cases r.2.1 with h | h | h
      · exact h
      · exfalso
        rw [hs] at hmem
        have hr' : r ∈ runesF y (n + 1) 0 := by rw [← hs]; exact hr
        simp only [runesF, hp, if_true, wordsF] at hmem hr'
        simp only [Bool.false_eq_true, if_false] at hmem
        split at hmem
        · have := words_small y n _ 0 0 (0 + 1) false (by omega) _ hmem
          simp only [Bool.false_eq_true, if_false] at this
          omega
        · rename_i hk
          have := words_less y n _ 0 0 (0 + 1) (by omega) (by
            rcases List.mem_cons.1 hr' with rfl | hr'
            · exact absurd h hk
            · exact ⟨r, hr', h⟩) _ hmem
          simp at this
      · exact absurd h hk2

/-! ### Texts of words and blanks -/

inductive Tok where
  | sp (b : ByteArray)
  | wd (x : ByteArray)

def Tok.text : Tok → ByteArray
  | .sp b => b
  | .wd x => x

def Tok.Fine : Tok → Prop
  | .sp b => 0 < b.size ∧ ∃ c, runes b = [(0, c, b.size)] ∧ kindR c = 1
  | .wd x => IsWord x

def toksText : List Tok → ByteArray
  | [] => ⟨#[]⟩
  | t :: r => t.text ++ toksText r

/-- The words of a row of words and blanks, the first at n runes. -/
def toksWords : Nat → List Tok → List (Nat × ByteArray)
  | _, [] => []
  | n, .sp _ :: r => toksWords (n + 1) r
  | n, .wd x :: r => (n, x) :: toksWords (n + (runes x).length) r

/-- No two words behind each other. -/
def Apart : List Tok → Prop
  | .wd _ :: .wd _ :: _ => False
  | _ :: r => Apart r
  | [] => True

theorem kind_good {l : List (Nat × Nat × Nat)} (h : ∀ r ∈ l, kindR r.2.1 ≠ 2) : Good l := fun r hr e => by
  have := h r hr
  rw [e] at this
  exact this rfl

theorem tok_kinds (t : Tok) (h : t.Fine) : ∀ r ∈ runes t.text, kindR r.2.1 ≠ 2 := by
  cases t with
  | sp b =>
    obtain ⟨_, c, hr, hk⟩ := h
    intro r hm
    simp only [Tok.text, hr, List.mem_singleton] at hm
    subst hm
    rw [hk]; decide
  | wd x =>
    intro r hm
    rw [h.2 r hm]; decide

theorem runes_tok (t : Tok) (y : ByteArray) (h : t.Fine) : runes (t.text ++ y) = runes t.text ++ (runes y).map (shiftR t.text.size) :=
  runes_append t.text y (kind_good (tok_kinds t h))

theorem shift_shift (a b : Nat) (l : List (Nat × Nat × Nat)) : (l.map (shiftR a)).map (shiftR b) = l.map (shiftR (a + b)) := by
  rw [List.map_map]
  apply List.map_congr_left
  intro r _
  simp [shiftR, Nat.add_assoc]

theorem toks_kinds : ∀ (l : List Tok), (∀ t ∈ l, t.Fine) → ∀ r ∈ runes (toksText l), kindR r.2.1 ≠ 2
  | [], _, r, hr => by cases hr
  | t :: l, h, r, hr => by
    rw [toksText, runes_tok t _ (h t (by simp))] at hr
    rcases List.mem_append.1 hr with hr | hr
    · exact tok_kinds t (h t (by simp)) r hr
    · obtain ⟨r', hr', rfl⟩ := List.mem_map.1 hr
      exact toks_kinds l (fun t ht => h t (by simp [ht])) r' hr'

/-- A row of a word's runes, read on. -/
theorem wordsF_run (s : ByteArray) : ∀ (l l' : List (Nat × Nat × Nat)) (a b n : Nat), (∀ r ∈ l, kindR r.2.1 = 0) → wordsF s (l ++ l') a b n true = wordsF s l' a b (n + l.length) true
  | [], l', a, b, n, _ => rfl
  | (p, c, k) :: l, l', a, b, n, h => by
    have h0 : kindR c = 0 := h (p, c, k) (by simp)
    simp only [List.cons_append, wordsF, if_true, h0]
    rw [if_neg (by decide), wordsF_run s l l' a b (n + 1) (fun r hr => h r (by simp [hr]))]
    congr 1
    simp; omega

theorem toks_split (T P : ByteArray) : ∀ (l : List Tok) (P : ByteArray) (a b n : Nat), T = P ++ toksText l → (∀ t ∈ l, t.Fine) → Apart l →
    wordsF T ((runes (toksText l)).map (shiftR P.size)) a b n false = toksWords n l
  | [], P, a, b, n, _, _, _ => by
    have e : runes (toksText []) = [] := rfl
    rw [e]; rfl
  | .sp c :: l, P, a, b, n, hT, hf, ha => by
    obtain ⟨hc, u, hr, hk⟩ := hf (.sp c) (by simp)
    rw [toksText, runes_tok (.sp c) _ (hf _ (by simp))]
    simp only [Tok.text, hr, List.map_append, List.map_cons, List.map_nil, List.cons_append, List.nil_append, shiftR, wordsF, hk, if_true]
    simp only [Bool.false_eq_true, if_false, toksWords]
    rw [shift_shift]
    have hT' : T = (P ++ c) ++ toksText l := by rw [hT, toksText]; exact ByteArray.append_assoc.symm
    have ih := toks_split T P l (P ++ c) a b (n + 1) hT' (fun t ht => hf t (by simp [ht])) (by cases l with | nil => trivial | cons _ _ => exact ha)
    rw [app_size, Nat.add_comm] at ih
    exact ih
  | .wd x :: l, P, a, b, n, hT, hf, ha => by
    obtain ⟨hx, hk⟩ := hf (.wd x) (by simp)
    rw [toksText, runes_tok (.wd x) _ (hf _ (by simp))]
    obtain ⟨r, hr⟩ := runes_cons x hx
    have hk0 : kindR (Utf8.decode x 0).1 = 0 := hk (0, (Utf8.decode x 0).1, (Utf8.decode x 0).2) (by rw [hr]; simp)
    have hkr : ∀ q ∈ r, kindR q.2.1 = 0 := fun q hq => hk q (by rw [hr]; simp [hq])
    have hlen : (runes x).length = r.length + 1 := by rw [hr]; simp
    have hstart : wordsF T ((runes x ++ (runes (toksText l)).map (shiftR x.size)).map (shiftR P.size)) a b n false =
        wordsF T ((runes (toksText l)).map (shiftR (x.size + P.size))) n P.size (n + (runes x).length) true := by
      rw [List.map_append, shift_shift, hr, List.map_cons, List.cons_append]
      simp only [shiftR, wordsF, hk0]
      simp only [Bool.false_eq_true, if_false]
      rw [if_neg (by decide), Nat.zero_add, wordsF_run T (r.map (shiftR P.size)) _ _ _ _ (fun q hq => by
        obtain ⟨q', hq', rfl⟩ := List.mem_map.1 hq
        exact hkr q' hq')]
      congr 1
      rw [List.length_map]; simp; omega
    simp only [Tok.text]
    rw [hstart, toksWords]
    match l, ha, hf, hT with
    | [], _, _, hT =>
      simp only [toksText, toksWords]
      have e : runes (⟨#[]⟩ : ByteArray) = [] := rfl
      rw [e]
      simp only [List.map_nil, wordsF, if_true]
      have hT' : T = P ++ x := by rw [hT]; simp only [toksText, Tok.text]; congr 1; exact ByteArray.append_empty
      rw [hT']
      congr 2
      have := ext_right P x 0
      rw [Nat.add_zero] at this
      rw [this, ext_all]
    | .sp c :: l, ha, hf, hT =>
      obtain ⟨hc, u, hr2, hk2⟩ := hf (.sp c) (by simp)
      rw [toksText, runes_tok (.sp c) _ (hf _ (by simp))]
      simp only [Tok.text, hr2, List.map_append, List.map_cons, List.map_nil, List.cons_append, List.nil_append, shiftR, wordsF, hk2, if_true]
      rw [shift_shift]
      have hT' : T = (P ++ x ++ c) ++ toksText l := by
        rw [hT]; simp only [toksText, Tok.text]
        rw [ByteArray.append_assoc, ByteArray.append_assoc]
      have ih := toks_split T P l (P ++ x ++ c) n P.size (n + (runes x).length + 1) hT' (fun t ht => hf t (by simp [ht])) (by cases l with | nil => trivial | cons _ _ => exact ha)
      rw [app_size, app_size, show P.size + x.size + c.size = c.size + (x.size + P.size) by omega] at ih
      rw [ih, toksWords]
      congr 2
      rw [Nat.zero_add, hT', show P ++ x ++ c ++ toksText l = (P ++ x) ++ (c ++ toksText l) by rw [ByteArray.append_assoc]]
      have e1 : x.size + P.size = (P ++ x).size := by rw [app_size]; omega
      rw [e1]
      apply ba_ext
      rw [Lib.extract_data]
      have e2 : ((P ++ x) ++ (c ++ toksText l)).data.toList = P.data.toList ++ (x.data.toList ++ (c ++ toksText l).data.toList) := by simp
      have hP : P.data.toList.length = P.size := by simp
      have hX : x.data.toList.length = x.size := by simp
      rw [e2, List.drop_append, List.drop_eq_nil_of_le (by omega), hP, Nat.sub_self, List.drop_zero, List.nil_append, app_size, Nat.add_sub_cancel_left, List.take_append, hX, Nat.sub_self, List.take_zero, List.append_nil, List.take_of_length_le (by omega)]
  termination_by l => l.length

/-- How a text of words and blanks is split. -/
theorem toks_spec (l : List Tok) (hf : ∀ t ∈ l, t.Fine) (ha : Apart l) : splitR (toksText l) = (toksWords 0 l, (runes (toksText l)).length, 0) := by
  have hn := badF_none_mk _ 0 (toks_kinds l hf)
  have h := toks_split (toksText l) ⟨#[]⟩ l ⟨#[]⟩ 0 0 0 (ByteArray.empty_append).symm hf ha
  have e : (runes (toksText l)).map (shiftR (⟨#[]⟩ : ByteArray).size) = runes (toksText l) := by
    have : (shiftR (⟨#[]⟩ : ByteArray).size) = id := by funext r; rfl
    rw [this, List.map_id]
  rw [e] at h
  unfold splitR
  rw [hn]
  simp only [splitOut]
  rw [show wordsR (toksText l) = toksWords 0 l from h]

theorem toks_count : ∀ (l : List Tok), (∀ t ∈ l, t.Fine) → (runes (toksText l)).length = (l.map fun t => (runes t.text).length).sum
  | [], _ => rfl
  | t :: l, h => by
    rw [toksText, runes_tok t _ (h t (by simp)), List.length_append, List.length_map, toks_count l (fun t ht => h t (by simp [ht]))]
    simp

end Go.Proofs.YtbdiphffdmakoaaDoor
