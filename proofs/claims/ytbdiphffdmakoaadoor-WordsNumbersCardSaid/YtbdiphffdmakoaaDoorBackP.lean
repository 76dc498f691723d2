/- Plain facts of words that are joined: how they are split. -/
import Derived.Test.YtbdiphffdmakoaaDoorP4
namespace Go.Proofs.YtbdiphffdmakoaaDoor
open Go Go.RowKit

def joinToks : List ByteArray → List Tok
  | [] => []
  | [x] => [.wd x]
  | x :: y :: r => .wd x :: .sp ⟨#[32]⟩ :: joinToks (y :: r)

/-- The words of a row, the first at n runes, each one rune behind the one ahead of it. -/
def backW : Nat → List ByteArray → List (Nat × ByteArray)
  | _, [] => []
  | n, x :: r => (n, x) :: backW (n + (runes x).length + 1) r

theorem backW_len : ∀ (l : List ByteArray) (n : Nat), (backW n l).length = l.length
  | [], _ => rfl
  | x :: r, n => by simp [backW, backW_len r]

def atOf (xs : List ByteArray) (k : Nat) : Nat := ((xs.take k).map fun x => (runes x).length + 1).sum

theorem backW_get : ∀ (l : List ByteArray) (n k : Nat) (x : ByteArray), l[k]? = some x → (backW n l)[k]? = some (n + atOf l k, x)
  | [], _, k, x, h => by simp at h
  | y :: r, n, 0, x, h => by simp at h; subst h; simp [backW, atOf]
  | y :: r, n, k + 1, x, h => by
    simp only [List.getElem?_cons_succ] at h
    simp only [backW, List.getElem?_cons_succ]
    rw [backW_get r _ k x h]
    simp only [atOf, List.take_succ_cons, List.map_cons, List.sum_cons]
    congr 2
    omega

theorem atOf_succ (xs : List ByteArray) (k : Nat) (x : ByteArray) (h : xs[k]? = some x) : atOf xs (k + 1) = atOf xs k + (runes x).length + 1 := by
  unfold atOf
  have hk := (List.getElem?_eq_some_iff.1 h).1
  rw [List.take_succ_eq_append_getElem hk, List.map_append, List.sum_append]
  have : xs[k] = x := (List.getElem?_eq_some_iff.1 h).2
  simp [this]
  omega

theorem joinToks_words : ∀ (l : List ByteArray) (n : Nat), toksWords n (joinToks l) = backW n l
  | [], _ => rfl
  | [x], n => by simp [joinToks, toksWords, backW]
  | x :: y :: r, n => by
    simp only [joinToks, toksWords]
    rw [joinToks_words (y :: r)]
    simp [backW]

theorem space_fine : (Tok.sp ⟨#[32]⟩).Fine := ⟨by decide, 32, rfl, rfl⟩

theorem joinToks_fine : ∀ (l : List ByteArray), (∀ x ∈ l, IsWord x) → ∀ t ∈ joinToks l, t.Fine
  | [], _, t, ht => by cases ht
  | [x], h, t, ht => by
    obtain rfl : t = .wd x := by simpa [joinToks] using ht
    exact h x (by simp)
  | x :: y :: r, h, t, ht => by
    simp only [joinToks, List.mem_cons] at ht
    rcases ht with rfl | rfl | ht
    · exact h x (by simp)
    · exact space_fine
    · exact joinToks_fine (y :: r) (fun z hz => h z (by simp [List.mem_cons.1 hz])) t ht

theorem joinToks_apart : ∀ (l : List ByteArray), Apart (joinToks l)
  | [] => trivial
  | [_] => trivial
  | x :: [y] => trivial
  | x :: y :: z :: r => joinToks_apart (y :: z :: r)

theorem joinToks_text : ∀ (l : List ByteArray), (toksText (joinToks l)).data.toList = Lib.join (l.map (·.data.toList)) [32]
  | [] => rfl
  | [x] => by
    simp only [joinToks, toksText, Tok.text, List.map_cons, List.map_nil, Lib.join_one]
    have : x ++ (⟨#[]⟩ : ByteArray) = x := ByteArray.append_empty
    rw [this]
  | x :: y :: r => by
    have ih := joinToks_text (y :: r)
    simp only [joinToks, toksText, Tok.text]
    have e : (x ++ ((⟨#[32]⟩ : ByteArray) ++ toksText (joinToks (y :: r)))).data.toList = x.data.toList ++ ([32] ++ (toksText (joinToks (y :: r))).data.toList) := by simp
    have h1 := Lib.join_cons y.data.toList (r.map (·.data.toList)) [32]
    have h2 := Lib.join_cons x.data.toList (y.data.toList :: r.map (·.data.toList)) [32]
    rw [e, ih, List.map_cons, List.map_cons, List.map_cons, h1, h2]
    simp only [Lib.joinTail, List.map_cons, List.flatten_cons, List.append_assoc]

theorem joinR_text (l : List ByteArray) : joinR l = toksText (joinToks l) := by
  apply ba_ext
  rw [joinToks_text]
  unfold joinR
  simp

/-- Words that are joined are split as they were. -/
theorem back_spec (l : List ByteArray) (h : ∀ x ∈ l, IsWord x) : splitR (joinR l) = (backW 0 l, (runes (joinR l)).length, 0) := by
  rw [joinR_text, toks_spec _ (joinToks_fine l h) (joinToks_apart l), joinToks_words]

theorem join_len : ∀ (l : List ByteArray), (∀ x ∈ l, x.size ≤ 100) → (Lib.join (l.map (·.data.toList)) [32]).length ≤ 101 * l.length
  | [], _ => by simp [Lib.join]
  | x :: r, h => by
    rw [List.map_cons, Lib.join_cons, List.length_append]
    have h1 : x.data.toList.length ≤ 100 := by have := h x (by simp); simpa using this
    have h2 : ∀ (l : List ByteArray), (∀ x ∈ l, x.size ≤ 100) → (Lib.joinTail [32] (l.map (·.data.toList))).length ≤ 101 * l.length := by
      intro l
      induction l with
      | nil => intro _; simp [Lib.joinTail]
      | cons y l ih =>
        intro hl
        have := ih (fun z hz => hl z (by simp [hz]))
        have hy : y.data.toList.length ≤ 100 := by have := hl y (by simp); simpa using this
        simp only [Lib.joinTail, List.map_cons, List.flatten_cons, List.length_append, List.length_cons, List.length_nil] at this ⊢
        omega
    have := h2 r (fun z hz => h z (by simp [hz]))
    rw [List.length_cons]
    omega

theorem joinR_size (l : List ByteArray) (h : ∀ x ∈ l, x.size ≤ 100) : (joinR l).size ≤ 101 * l.length := by
  have h1 := join_len l h
  have h2 : (joinR l).size = (Lib.join (l.map (·.data.toList)) [32]).length := by
    unfold joinR; exact List.size_toArray ..
  omega

theorem atOf_le (xs : List ByteArray) (h : ∀ x ∈ xs, x.size ≤ 100) : ∀ k, atOf xs k ≤ 101 * k
  | 0 => by simp [atOf]
  | k + 1 => by
    have ih := atOf_le xs h k
    cases hx : xs[k]? with
    | none =>
      have : xs.take (k + 1) = xs.take k := by
        have := List.getElem?_eq_none_iff.1 hx
        rw [List.take_of_length_le (by omega), List.take_of_length_le (by omega)]
      unfold atOf at ih ⊢
      rw [this]; omega
    | some x =>
      rw [atOf_succ xs k x hx]
      have := runes_len x
      have := h x (List.mem_of_getElem? hx)
      omega

end Go.Proofs.YtbdiphffdmakoaaDoor
