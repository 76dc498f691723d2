/- Plain facts of numbers' texts: what Number tells of a row of digits, with or without a minus ahead, and with another rune among them. -/
import Derived.Test.YtbdiphffdmakoaaDoorP4
namespace Go.Proofs.YtbdiphffdmakoaaDoor
open Go Go.RowKit

/-- One rune's text. -/
def One (p : ByteArray) (c : Nat) : Prop := 0 < p.size ∧ runes p = [(0, c, p.size)] ∧ c ≠ 65533

theorem one_app (p y : ByteArray) (c : Nat) (h : One p c) : runes (p ++ y) = (0, c, p.size) :: (runes y).map (shiftR p.size) := by
  rw [runes_append p y (fun r hr => by
    rw [h.2.1] at hr
    obtain rfl : r = (0, c, p.size) := by simpa using hr
    exact h.2.2), h.2.1]
  rfl

def cat : List ByteArray → ByteArray
  | [] => ⟨#[]⟩
  | p :: r => p ++ cat r

theorem cat_snoc : ∀ (l : List ByteArray) (p : ByteArray), cat (l ++ [p]) = cat l ++ p
  | [], p => by
    simp only [List.nil_append, cat]
    exact (ByteArray.append_empty).trans (ByteArray.empty_append).symm
  | u :: l, p => by
    simp only [List.cons_append, cat]
    rw [cat_snoc l p, ByteArray.append_assoc]

/-- A digit's text, of whichever kind. -/
def Dig (p : ByteArray) (d : Nat) : Prop := ∃ c, One p c ∧ markR c = (1, d)

/-- A minus' text, of whichever kind. -/
def Min (p : ByteArray) : Prop := ∃ c, One p c ∧ markR c = (2, 0)

theorem numF_pairs : ∀ (ps : List (ByteArray × Nat)) (off a b : Nat) (e : Bool), (∀ p ∈ ps, Dig p.1 p.2) → b + ps.length ≤ 20 →
    numF ((runes (cat (ps.map (·.1)))).map (shiftR off)) a b e = some ((ps.map (·.2)).foldl longerN a, b + ps.length, e)
  | [], off, a, b, e, _, _ => by
    have h : runes (cat (([] : List (ByteArray × Nat)).map (·.1))) = [] := rfl
    rw [h]; rfl
  | (p, d) :: ps, off, a, b, e, h, hl => by
    obtain ⟨c, h1, hm⟩ := h (p, d) (by simp)
    simp only [List.length_cons] at hl
    simp only [List.map_cons, cat]
    rw [one_app p _ c h1, List.map_cons, shift_shift]
    simp only [shiftR]
    rw [numF_digit hm (by omega), numF_pairs ps _ _ _ _ (fun q hq => h q (by simp [hq])) (by omega)]
    simp only [List.foldl_cons, List.length_cons]
    congr 3
    omega

def dval (a : Nat) (ds : List Nat) : Nat := ds.foldl (fun a d => a * 10 + d) a

theorem dval_ge : ∀ (ds : List Nat) (a : Nat), a ≤ dval a ds
  | [], a => Nat.le_refl _
  | d :: ds, a => by
    have := dval_ge ds (a * 10 + d)
    simp only [dval, List.foldl_cons] at this ⊢
    omega

theorem fold_longer : ∀ (ds : List Nat) (a : Nat), dval a ds ≤ 1152921504606846976 → ds.foldl longerN a = dval a ds
  | [], a, _ => rfl
  | d :: ds, a, h => by
    have hg := dval_ge ds (a * 10 + d)
    simp only [dval, List.foldl_cons] at h hg ⊢
    have e : longerN a d = a * 10 + d := by unfold longerN; rw [if_neg (by omega)]
    rw [e]
    exact fold_longer ds (a * 10 + d) h

theorem num_pos (ps : List (ByteArray × Nat)) (h : ∀ p ∈ ps, Dig p.1 p.2) (hne : ps ≠ []) (hl : ps.length ≤ 20) (hv : dval 0 (ps.map (·.2)) ≤ 1152921504606846976) :
    numR (cat (ps.map (·.1))) = ((dval 0 (ps.map (·.2)) : Int), 0) := by
  have h1 := numF_pairs ps 0 0 0 false h (by omega)
  have e : (runes (cat (ps.map (·.1)))).map (shiftR 0) = runes (cat (ps.map (·.1))) := by
    have : shiftR 0 = id := by funext r; rfl
    rw [this, List.map_id]
  rw [e, fold_longer _ _ hv] at h1
  have hp : 0 < ps.length := List.length_pos_iff.2 hne
  unfold numR
  rw [h1]
  simp only [numOut]
  rw [if_neg (by omega), if_neg (by omega)]
  rfl

theorem num_neg (m : ByteArray) (hm : Min m) (ps : List (ByteArray × Nat)) (h : ∀ p ∈ ps, Dig p.1 p.2) (hne : ps ≠ []) (hl : ps.length ≤ 20) (hv : dval 0 (ps.map (·.2)) ≤ 1152921504606846976) :
    numR (m ++ cat (ps.map (·.1))) = (-(dval 0 (ps.map (·.2)) : Int), 0) := by
  obtain ⟨c, h1, hc⟩ := hm
  have h2 := numF_pairs ps m.size 0 0 true h (by omega)
  rw [fold_longer _ _ hv] at h2
  have hp : 0 < ps.length := List.length_pos_iff.2 hne
  unfold numR
  rw [one_app m _ c h1, numF_minus hc rfl, h2]
  simp only [numOut]
  rw [if_neg (by omega), if_neg (by omega)]
  rfl

/-- A rune that is none of a number's, or a minus behind the first place: it is no number's text. -/
theorem numF_bad : ∀ (l l' : List (Nat × Nat × Nat)) (p c k a b : Nat) (e : Bool), (markR c = (0, 0) ∨ (markR c = (2, 0) ∧ p ≠ 0)) → numF (l ++ (p, c, k) :: l') a b e = none
  | [], l', p, c, k, a, b, e, h => by
    rcases h with h | ⟨h, hp⟩
    · exact numF_none h
    · exact numF_minus_not h hp
  | (p1, c1, k1) :: l, l', p, c, k, a, b, e, h => by
    simp only [List.cons_append, numF]
    split
    · exact numF_bad l l' p c k _ _ _ h
    · split
      · exact numF_bad l l' p c k _ _ _ h
      · rfl

/-! ### The digits of a number -/

def digs (u : Nat) : List Nat := if _h : u < 10 then [u] else digs (u / 10) ++ [u % 10]
termination_by u
decreasing_by omega

theorem digs_le (u : Nat) : ∀ d ∈ digs u, d ≤ 9 := by
  induction u using Nat.strongRecOn with
  | _ u ih =>
    intro d hd
    rw [digs] at hd
    split at hd
    · obtain rfl : d = u := by simpa using hd
      omega
    · rcases List.mem_append.1 hd with h | h
      · exact ih (u / 10) (by omega) d h
      · obtain rfl : d = u % 10 := by simpa using h
        omega

theorem digs_val (u : Nat) : dval 0 (digs u) = u := by
  induction u using Nat.strongRecOn with
  | _ u ih =>
    rw [digs]
    split
    · simp [dval]
    · have h := ih (u / 10) (by omega)
      simp only [dval, List.foldl_append, List.foldl_cons, List.foldl_nil] at h ⊢
      rw [h]; omega

theorem digs_ne (u : Nat) : digs u ≠ [] := by
  rw [digs]; split <;> simp

theorem digs_dec (u : Nat) : Lib.decDigits u = (digs u).map fun d => UInt8.ofNat (48 + d) := by
  induction u using Nat.strongRecOn with
  | _ u ih =>
    rw [Lib.decDigits, digs]
    split
    · simp
    · rw [ih (u / 10) (by omega)]; simp

theorem digs_len : ∀ (k u : Nat), u < 10 ^ (k + 1) → (digs u).length ≤ k + 1
  | 0, u, h => by rw [digs]; rw [dif_pos (by simpa using h)]; simp
  | k + 1, u, h => by
    rw [digs]
    split
    · simp
    · have := digs_len k (u / 10) (by rw [Nat.pow_succ] at h; omega)
      simp; omega

def asc (d : Nat) : ByteArray := ⟨#[UInt8.ofNat (48 + d)]⟩
def wid (d : Nat) : ByteArray := ⟨#[239, 188, UInt8.ofNat (144 + d)]⟩

theorem dig_cases (P : Nat → Prop) (h : P 0 ∧ P 1 ∧ P 2 ∧ P 3 ∧ P 4 ∧ P 5 ∧ P 6 ∧ P 7 ∧ P 8 ∧ P 9) (d : Nat) (hd : d ≤ 9) : P d := by
  obtain ⟨h0, h1, h2, h3, h4, h5, h6, h7, h8, h9⟩ := h
  have : d = 0 ∨ d = 1 ∨ d = 2 ∨ d = 3 ∨ d = 4 ∨ d = 5 ∨ d = 6 ∨ d = 7 ∨ d = 8 ∨ d = 9 := by omega
  rcases this with rfl | rfl | rfl | rfl | rfl | rfl | rfl | rfl | rfl | rfl <;> assumption

theorem asc_dig (d : Nat) (hd : d ≤ 9) : Dig (asc d) d := by
  refine dig_cases (fun d => Dig (asc d) d) ?_ d hd
  refine ⟨?_, ?_, ?_, ?_, ?_, ?_, ?_, ?_, ?_, ?_⟩
  · exact ⟨48, ⟨by decide, rfl, by decide⟩, rfl⟩
  · exact ⟨49, ⟨by decide, rfl, by decide⟩, rfl⟩
  · exact ⟨50, ⟨by decide, rfl, by decide⟩, rfl⟩
  · exact ⟨51, ⟨by decide, rfl, by decide⟩, rfl⟩
  · exact ⟨52, ⟨by decide, rfl, by decide⟩, rfl⟩
  · exact ⟨53, ⟨by decide, rfl, by decide⟩, rfl⟩
  · exact ⟨54, ⟨by decide, rfl, by decide⟩, rfl⟩
  · exact ⟨55, ⟨by decide, rfl, by decide⟩, rfl⟩
  · exact ⟨56, ⟨by decide, rfl, by decide⟩, rfl⟩
  · exact ⟨57, ⟨by decide, rfl, by decide⟩, rfl⟩

theorem wid_dig (d : Nat) (hd : d ≤ 9) : Dig (wid d) d := by
  refine dig_cases (fun d => Dig (wid d) d) ?_ d hd
  refine ⟨?_, ?_, ?_, ?_, ?_, ?_, ?_, ?_, ?_, ?_⟩
  · exact ⟨65296, ⟨by decide, rfl, by decide⟩, rfl⟩
  · exact ⟨65297, ⟨by decide, rfl, by decide⟩, rfl⟩
  · exact ⟨65298, ⟨by decide, rfl, by decide⟩, rfl⟩
  · exact ⟨65299, ⟨by decide, rfl, by decide⟩, rfl⟩
  · exact ⟨65300, ⟨by decide, rfl, by decide⟩, rfl⟩
  · exact ⟨65301, ⟨by decide, rfl, by decide⟩, rfl⟩
  · exact ⟨65302, ⟨by decide, rfl, by decide⟩, rfl⟩
  · exact ⟨65303, ⟨by decide, rfl, by decide⟩, rfl⟩
  · exact ⟨65304, ⟨by decide, rfl, by decide⟩, rfl⟩
  · exact ⟨65305, ⟨by decide, rfl, by decide⟩, rfl⟩

theorem minus_one : Min ⟨#[45]⟩ := ⟨45, ⟨by decide, rfl, by decide⟩, rfl⟩
theorem minus_two : Min ⟨#[226, 136, 146]⟩ := ⟨8722, ⟨by decide, rfl, by decide⟩, rfl⟩

/-! ### What is put -/

def putS (n : Int) : ByteArray := ⟨(Lib.itoa n).toArray⟩

def pairs (f : Nat → ByteArray) (ds : List Nat) : List (ByteArray × Nat) := ds.map fun d => (f d, d)

theorem pairs_fst (f : Nat → ByteArray) (ds : List Nat) : (pairs f ds).map (·.1) = ds.map f := by simp [pairs]
theorem pairs_snd (f : Nat → ByteArray) (ds : List Nat) : (pairs f ds).map (·.2) = ds := by
  unfold pairs
  rw [List.map_map]
  exact List.map_id ds
theorem pairs_dig (f : Nat → ByteArray) (hf : ∀ d, d ≤ 9 → Dig (f d) d) (ds : List Nat) (h : ∀ d ∈ ds, d ≤ 9) : ∀ p ∈ pairs f ds, Dig p.1 p.2 := by
  intro p hp
  obtain ⟨d, hd, rfl⟩ := List.mem_map.1 hp
  exact hf d (h d hd)

theorem cat_asc : ∀ (ds : List Nat), (cat (ds.map asc)).data.toList = ds.map fun d => UInt8.ofNat (48 + d)
  | [] => rfl
  | d :: ds => by
    simp only [List.map_cons, cat]
    have e : (asc d ++ cat (ds.map asc)).data.toList = (asc d).data.toList ++ (cat (ds.map asc)).data.toList := by simp
    rw [e, cat_asc ds]
    rfl

theorem put_pos (n : Int) (h : 0 ≤ n) : putS n = cat ((digs n.toNat).map asc) := by
  apply ba_ext
  rw [cat_asc, ← digs_dec]
  unfold putS Lib.itoa
  rw [if_neg (by omega)]

theorem put_neg (n : Int) (h : n < 0) : putS n = ⟨#[45]⟩ ++ cat ((digs n.natAbs).map asc) := by
  apply ba_ext
  have e : ((⟨#[45]⟩ : ByteArray) ++ cat ((digs n.natAbs).map asc)).data.toList = [45] ++ (cat ((digs n.natAbs).map asc)).data.toList := by simp
  rw [e, cat_asc, ← digs_dec]
  unfold putS Lib.itoa
  rw [if_pos h]
  rfl

/-- A number within 2^60 that is put is told again. -/
theorem num_put (n : Int) (h1 : -1152921504606846976 ≤ n) (h2 : n ≤ 1152921504606846976) : numR (putS n) = (n, 0) := by
  by_cases h : n < 0
  · have hv := digs_val n.natAbs
    have hl := digs_len 18 n.natAbs (by omega)
    have := num_neg ⟨#[45]⟩ minus_one (pairs asc (digs n.natAbs)) (pairs_dig asc asc_dig _ (digs_le _)) (by unfold pairs; simpa using digs_ne _) (by unfold pairs; simp; omega) (by rw [pairs_snd, hv]; omega)
    rw [pairs_fst, pairs_snd, hv, ← put_neg n h] at this
    rw [this]
    congr 1
    omega
  · have hv := digs_val n.toNat
    have hl := digs_len 18 n.toNat (by omega)
    have := num_pos (pairs asc (digs n.toNat)) (pairs_dig asc asc_dig _ (digs_le _)) (by unfold pairs; simpa using digs_ne _) (by unfold pairs; simp; omega) (by rw [pairs_snd, hv]; omega)
    rw [pairs_fst, pairs_snd, hv, ← put_pos n (by omega)] at this
    rw [this]
    congr 1
    omega

/-! ### What is put stands as a word -/

theorem stands_of_word (s : ByteArray) (h : IsWord s) : standsR s = true := by
  have hs := toks_spec [.wd s] (fun t ht => by obtain rfl : t = .wd s := by simpa using ht
                                               exact h) trivial
  have e : toksText [.wd s] = s := by
    simp only [toksText, Tok.text]; exact ByteArray.append_empty
  rw [e] at hs
  unfold standsR
  rw [hs]
  simp [toksWords]

theorem runes_cat_kind : ∀ (ps : List ByteArray), (∀ p ∈ ps, ∃ c, One p c ∧ kindR c = 0) → ∀ r ∈ runes (cat ps), kindR r.2.1 = 0
  | [], _, r, hr => by cases hr
  | p :: ps, h, r, hr => by
    obtain ⟨c, h1, hk⟩ := h p (by simp)
    rw [cat, one_app p _ c h1] at hr
    rcases List.mem_cons.1 hr with rfl | hr
    · exact hk
    · obtain ⟨r', hr', rfl⟩ := List.mem_map.1 hr
      exact runes_cat_kind ps (fun q hq => h q (by simp [hq])) r' hr'

theorem asc_kind (d : Nat) (hd : d ≤ 9) : ∃ c, One (asc d) c ∧ kindR c = 0 := by
  refine dig_cases (fun d => ∃ c, One (asc d) c ∧ kindR c = 0) ?_ d hd
  refine ⟨?_, ?_, ?_, ?_, ?_, ?_, ?_, ?_, ?_, ?_⟩
  · exact ⟨48, ⟨by decide, rfl, by decide⟩, rfl⟩
  · exact ⟨49, ⟨by decide, rfl, by decide⟩, rfl⟩
  · exact ⟨50, ⟨by decide, rfl, by decide⟩, rfl⟩
  · exact ⟨51, ⟨by decide, rfl, by decide⟩, rfl⟩
  · exact ⟨52, ⟨by decide, rfl, by decide⟩, rfl⟩
  · exact ⟨53, ⟨by decide, rfl, by decide⟩, rfl⟩
  · exact ⟨54, ⟨by decide, rfl, by decide⟩, rfl⟩
  · exact ⟨55, ⟨by decide, rfl, by decide⟩, rfl⟩
  · exact ⟨56, ⟨by decide, rfl, by decide⟩, rfl⟩
  · exact ⟨57, ⟨by decide, rfl, by decide⟩, rfl⟩

/-- The pieces of what is put. -/
def putPs (n : Int) : List ByteArray := if n < 0 then ⟨#[45]⟩ :: (digs n.natAbs).map asc else (digs n.toNat).map asc

theorem put_cat (n : Int) : putS n = cat (putPs n) := by
  unfold putPs
  split
  · rename_i h; exact put_neg n h
  · rename_i h; exact put_pos n (by omega)

theorem putPs_one (n : Int) : ∀ p ∈ putPs n, ∃ c, One p c ∧ kindR c = 0 := by
  intro p hp
  unfold putPs at hp
  split at hp
  · rcases List.mem_cons.1 hp with rfl | hp
    · exact ⟨45, ⟨by decide, rfl, by decide⟩, rfl⟩
    · obtain ⟨d, hd, rfl⟩ := List.mem_map.1 hp
      exact asc_kind d (digs_le _ d hd)
  · obtain ⟨d, hd, rfl⟩ := List.mem_map.1 hp
    exact asc_kind d (digs_le _ d hd)

theorem put_pos_size (n : Int) : 0 < (putS n).size := by
  rw [put_cat]
  unfold putPs
  split
  · simp only [cat]; rw [app_size]; show 0 < 1 + _; omega
  · cases h : digs n.toNat with
    | nil => exact absurd h (digs_ne _)
    | cons d ds => simp only [List.map_cons, cat]; rw [app_size]; show 0 < 1 + _; omega

theorem put_word (n : Int) : IsWord (putS n) := ⟨put_pos_size n, fun r hr => runes_cat_kind (putPs n) (putPs_one n) r (by rw [← put_cat]; exact hr)⟩

end Go.Proofs.YtbdiphffdmakoaaDoor
