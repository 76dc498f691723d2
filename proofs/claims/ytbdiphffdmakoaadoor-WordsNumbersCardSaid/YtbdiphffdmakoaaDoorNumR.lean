/- What the law WordsNumbers makes of a number's text, round by round, and what Number tells of it. -/
import Derived.Test.YtbdiphffdmakoaaDoorNumQ
import Derived.Test.YtbdiphffdmakoaaDoorBackW
import Derived.Test.YtbdiphffdmakoaaDoorBadW
import Derived.Laws.BytesString
import Derived.Laws.Cover4
import Derived.StillTailTactics
import Derived.Deep.RegionWith
namespace Go.Proofs.YtbdiphffdmakoaaDoor
open Go Go.RowKit Go.MapKept Go.Shelf

theorem put_s (n : Int) (h0 : -9223372036854775808 ≤ n) (h1 : n ≤ 9223372036854775807) (w : World) (hT : Tabs w) :
    Calls Tryd.prog 18 #[.int .i64 n] w fun e w' => e = .returned (.string (putS n)) ∧ Below w.heap.size w w' := put_any n h0 h1 w hT

theorem number_is (s : ByteArray) (a b : Int) (w : World) (hs : s.size ≤ maxLen) (h : numR s = (a, b)) :
    Calls Tryd.prog 11 #[.string s] w fun e w' => e = .returned (.tuple #[.int .i64 a, .int .i64 b]) ∧ Below w.heap.size w w' := by
  have := number_any s w hs
  rwa [h] at this

/-- What the loop makes of the first k bytes of what is put. -/
def trP (wide : Bool) (d : Nat) : ByteArray := if wide then wid d else asc d
def zP (E : Bool) : List (ByteArray × Nat) := if E then [(asc 0, 0)] else []

def TRel (n : Int) (wide E : Bool) (k : Nat) (t : ByteArray) : Prop :=
  t.size ≤ 4 * k ∧
  (n < 0 → (k = 0 ∧ t = ⟨#[]⟩) ∨ (0 < k ∧ t = ⟨#[226, 136, 146]⟩ ++ cat ((zP E ++ pairs (trP wide) ((digs n.natAbs).take (k - 1))).map (·.1)))) ∧
  (0 ≤ n → E = true ∨ t = cat ((pairs (trP wide) ((digs n.toNat).take k)).map (·.1)))

theorem cat_asc_size (ds : List Nat) : (cat (ds.map asc)).size = ds.length := by
  have h : (cat (ds.map asc)).data.toList.length = ds.length := by rw [cat_asc]; simp
  have h2 : (cat (ds.map asc)).data.toList.length = (cat (ds.map asc)).size := Array.length_toList
  omega

theorem put_size (n : Int) (h1 : -1152921504606846976 ≤ n) (h2 : n ≤ 1152921504606846976) : (putS n).size ≤ 20 := by
  by_cases h : n < 0
  · rw [put_neg n h, app_size, cat_asc_size]
    have := digs_len 18 n.natAbs (by omega)
    show 1 + _ ≤ 20
    omega
  · rw [put_pos n (by omega), cat_asc_size]
    have := digs_len 18 n.toNat (by omega)
    omega

theorem put_size_neg (n : Int) (h : n < 0) : (putS n).size = (digs n.natAbs).length + 1 := by
  rw [put_neg n h, app_size, cat_asc_size]
  show 1 + _ = _
  omega
theorem put_size_pos (n : Int) (h : 0 ≤ n) : (putS n).size = (digs n.toNat).length := by
  rw [put_pos n h, cat_asc_size]

theorem byte_list (s : ByteArray) (k : Nat) (h : k < s.size) (l : List UInt8) (hl : s.data.toList = l) (b : UInt8) (hb : l[k]? = some b) : s[k] = b := by
  have e : s.data.toList[k]? = some (s[k]) := by
    rw [List.getElem?_eq_getElem (by simpa using h)]
    rfl
  rw [hl, hb] at e
  exact (Option.some.inj e).symm

/-- Each byte of what is put. -/
theorem byte_cases (n : Int) (s : ByteArray) (hs : putS n = s) (k : Nat) (h : k < s.size) :
    (n < 0 ∧ k = 0 ∧ s[k].toNat = 45) ∨ (∃ d, d ≤ 9 ∧ s[k].toNat = 48 + d ∧ s[k] = UInt8.ofNat (48 + d) ∧ ((n < 0 ∧ 0 < k ∧ (digs n.natAbs)[k - 1]? = some d) ∨ (0 ≤ n ∧ (digs n.toNat)[k]? = some d))) := by
  subst hs
  by_cases hn : n < 0
  · have hl : (putS n).data.toList = 45 :: (digs n.natAbs).map fun d => UInt8.ofNat (48 + d) := by
      unfold putS Lib.itoa
      rw [if_pos hn, digs_dec]
    have hsz := put_size_neg n hn
    cases k with
    | zero => left; exact ⟨hn, rfl, by rw [byte_list _ 0 h _ hl 45 rfl]; rfl⟩
    | succ k =>
      right
      have hk : k < (digs n.natAbs).length := by omega
      have hd := digs_le n.natAbs _ (List.getElem_mem hk)
      have hb := byte_list _ (k + 1) h _ hl (UInt8.ofNat (48 + (digs n.natAbs)[k])) (by simp [hk])
      refine ⟨(digs n.natAbs)[k], hd, by rw [hb, u8_nat _ (by omega)], hb, .inl ⟨hn, by omega, by simp [hk]⟩⟩
  · have hl : (putS n).data.toList = (digs n.toNat).map fun d => UInt8.ofNat (48 + d) := by
      unfold putS Lib.itoa
      rw [if_neg hn, digs_dec]
    have hsz := put_size_pos n (by omega)
    right
    have hk : k < (digs n.toNat).length := by omega
    have hd := digs_le n.toNat _ (List.getElem_mem hk)
    have hb := byte_list _ k h _ hl (UInt8.ofNat (48 + (digs n.toNat)[k])) (by simp [hk])
    exact ⟨(digs n.toNat)[k], hd, by rw [hb, u8_nat _ (by omega)], hb, .inr ⟨by omega, by simp [hk]⟩⟩

theorem ext_one (s : ByteArray) (k d : Nat) (h : k < s.size) (hb : s[k] = UInt8.ofNat (48 + d)) : s.extract k (k + 1) = asc d := by
  apply ba_ext
  rw [Lib.extract_data, show k + 1 - k = 1 by omega]
  have hk : k < s.data.toList.length := by simpa using h
  rw [List.drop_eq_getElem_cons hk]
  show [s[k]] = [UInt8.ofNat (48 + d)]
  rw [hb]

theorem trP_size (wide : Bool) (d : Nat) : (trP wide d).size ≤ 3 := by
  cases wide
  · exact Nat.le_of_lt (Nat.lt_of_lt_of_le Nat.one_lt_two (by decide))
  · exact Nat.le_refl 3

theorem trP_dig (wide : Bool) (d : Nat) (h : d ≤ 9) : Dig (trP wide d) d := by
  cases wide
  · exact asc_dig d h
  · exact wid_dig d h

theorem take_snoc' (l : List Nat) (k d : Nat) (h : l[k]? = some d) : l.take (k + 1) = l.take k ++ [d] := by
  have hk := (List.getElem?_eq_some_iff.1 h).1
  rw [List.take_succ_eq_append_getElem hk, (List.getElem?_eq_some_iff.1 h).2]

theorem trel_minus (n : Int) (wide : Bool) (t : ByteArray) (hn : n < 0) (h : TRel n wide false 0 t) : TRel n wide false 1 (t ++ ⟨#[226, 136, 146]⟩) := by
  have ht : t = ⟨#[]⟩ := by
    rcases h.2.1 hn with ⟨_, h⟩ | ⟨h, _⟩
    · exact h
    · omega
  subst ht
  refine ⟨by decide, fun _ => .inr ⟨by omega, ?_⟩, fun h => by omega⟩
  exact (ByteArray.empty_append).trans (ByteArray.append_empty).symm

theorem trel_minus0 (n : Int) (wide : Bool) (t : ByteArray) (hn : n < 0) (h : TRel n wide true 0 t) : TRel n wide true 1 (t ++ ⟨#[226, 136, 146]⟩ ++ ⟨#[48]⟩) := by
  have ht : t = ⟨#[]⟩ := by
    rcases h.2.1 hn with ⟨_, h⟩ | ⟨h, _⟩
    · exact h
    · omega
  subst ht
  refine ⟨by decide, fun _ => .inr ⟨by omega, ?_⟩, fun h => by omega⟩
  have e1 : (⟨#[]⟩ : ByteArray) ++ ⟨#[226, 136, 146]⟩ = ⟨#[226, 136, 146]⟩ := ByteArray.empty_append
  have e2 : cat ((zP true ++ pairs (trP wide) ((digs n.natAbs).take (1 - 1))).map (·.1)) = ⟨#[48]⟩ ++ ⟨#[]⟩ := rfl
  have e3 : (⟨#[48]⟩ : ByteArray) ++ ⟨#[]⟩ = ⟨#[48]⟩ := ByteArray.append_empty
  rw [e1, e2, e3]

theorem trel_neg (n : Int) (wide E : Bool) (k d : Nat) (t : ByteArray) (hn : n < 0) (hk : 0 < k) (hd : (digs n.natAbs)[k - 1]? = some d) (h : TRel n wide E k t) : TRel n wide E (k + 1) (t ++ trP wide d) := by
  have ht : t = ⟨#[226, 136, 146]⟩ ++ cat ((zP E ++ pairs (trP wide) ((digs n.natAbs).take (k - 1))).map (·.1)) := by
    rcases h.2.1 hn with ⟨h, _⟩ | ⟨_, h⟩
    · omega
    · exact h
  refine ⟨by rw [app_size]; have := h.1; have := trP_size wide d; omega, fun _ => .inr ⟨by omega, ?_⟩, fun h => by omega⟩
  have e : (digs n.natAbs).take (k + 1 - 1) = (digs n.natAbs).take (k - 1) ++ [d] := by
    rw [show k + 1 - 1 = (k - 1) + 1 by omega]; exact take_snoc' _ _ _ hd
  rw [e, ht]
  have e2 : (zP E ++ pairs (trP wide) ((digs n.natAbs).take (k - 1) ++ [d])).map (·.1) = (zP E ++ pairs (trP wide) ((digs n.natAbs).take (k - 1))).map (·.1) ++ [trP wide d] := by
    simp [pairs]
  rw [e2, cat_snoc, ByteArray.append_assoc]

theorem trel_pos (n : Int) (wide E : Bool) (k d : Nat) (t : ByteArray) (hn : 0 ≤ n) (hd : (digs n.toNat)[k]? = some d) (h : TRel n wide E k t) : TRel n wide E (k + 1) (t ++ trP wide d) := by
  refine ⟨by rw [app_size]; have := h.1; have := trP_size wide d; omega, fun h => by omega, fun _ => ?_⟩
  rcases h.2.2 hn with h | h
  · exact .inl h
  · right
    rw [take_snoc' _ _ _ hd, h]
    have e2 : (pairs (trP wide) ((digs n.toNat).take k ++ [d])).map (·.1) = (pairs (trP wide) ((digs n.toNat).take k)).map (·.1) ++ [trP wide d] := by simp [pairs]
    rw [e2, cat_snoc]

theorem trel_extra (n : Int) (wide : Bool) (k d : Nat) (t : ByteArray) (hn : 0 ≤ n) (h : TRel n wide true k t) : TRel n wide true (k + 1) (t ++ trP wide d ++ ⟨#[48]⟩) := by
  refine ⟨?_, fun h => by omega, fun _ => .inl rfl⟩
  rw [app_size, app_size]
  have := h.1
  have := trP_size wide d
  show _ + 1 ≤ _
  omega

/-- What Number tells of what the loop makes. -/
theorem trel_num (n : Int) (wide E : Bool) (t : ByteArray) (hn1 : -1152921504606846976 ≤ n) (hn2 : n ≤ 1152921504606846976) (h : TRel n wide E (putS n).size t) (hc : n < 0 ∨ E = false) : numR t = (n, 0) := by
  by_cases hn : n < 0
  · have hsz := put_size_neg n hn
    have ht : t = ⟨#[226, 136, 146]⟩ ++ cat ((zP E ++ pairs (trP wide) (digs n.natAbs)).map (·.1)) := by
      rcases h.2.1 hn with ⟨h, _⟩ | ⟨_, h⟩
      · omega
      · rw [h, hsz, Nat.add_sub_cancel, List.take_of_length_le (Nat.le_refl _)]
    have hl := digs_len 18 n.natAbs (by omega)
    have hv := digs_val n.natAbs
    have hdv : dval 0 ((zP E ++ pairs (trP wide) (digs n.natAbs)).map (·.2)) = n.natAbs := by
      rw [List.map_append, pairs_snd]
      cases E
      · exact hv
      · exact hv
    have hzl : (zP E).length ≤ 1 := by cases E <;> decide
    have hpl : (pairs (trP wide) (digs n.natAbs)).length = (digs n.natAbs).length := by simp [pairs]
    have hz : ∀ p ∈ zP E, Dig p.1 p.2 := by
      cases E
      · intro p hp; cases hp
      · intro p hp
        obtain rfl : p = (asc 0, 0) := by simpa [zP] using hp
        exact asc_dig 0 (by omega)
    have := num_neg ⟨#[226, 136, 146]⟩ minus_two (zP E ++ pairs (trP wide) (digs n.natAbs)) (fun p hp => by
        rcases List.mem_append.1 hp with hp | hp
        · exact hz p hp
        · exact pairs_dig _ (trP_dig wide) _ (digs_le _) p hp) (by
        intro e
        have := congrArg List.length e
        rw [List.length_append, hpl] at this
        have h0 : 0 < (digs n.natAbs).length := List.length_pos_iff.2 (digs_ne _)
        rw [List.length_nil] at this
        omega) (by rw [List.length_append, hpl]; omega) (by rw [hdv]; omega)
    rw [ht, this, hdv]
    congr 1
    omega
  · have hE : E = false := by rcases hc with h | h
                              · exact absurd h hn
                              · exact h
    have hsz := put_size_pos n (by omega)
    have ht : t = cat ((pairs (trP wide) (digs n.toNat)).map (·.1)) := by
      rcases h.2.2 (by omega) with h | h
      · rw [hE] at h; cases h
      · rw [h, hsz, List.take_of_length_le (Nat.le_refl _)]
    have hl := digs_len 18 n.toNat (by omega)
    have hv := digs_val n.toNat
    have hpl : (pairs (trP wide) (digs n.toNat)).length = (digs n.toNat).length := by simp [pairs]
    have := num_pos (pairs (trP wide) (digs n.toNat)) (pairs_dig _ (trP_dig wide) _ (digs_le _)) (by unfold pairs; simpa using digs_ne _) (by rw [hpl]; omega) (by rw [pairs_snd, hv]; omega)
    rw [ht, this, pairs_snd, hv]
    congr 1
    omega

/-- With a nought ahead. -/
theorem nought_num (n : Int) (hn : 0 ≤ n) (hn2 : n ≤ 1152921504606846976) : numR ((⟨#[48]⟩ : ByteArray) ++ putS n) = (n, 0) := by
  have hl := digs_len 18 n.toNat (by omega)
  have hv := digs_val n.toNat
  have hpl : (pairs asc (digs n.toNat)).length = (digs n.toNat).length := by simp [pairs]
  have hdv : dval 0 (((asc 0, 0) :: pairs asc (digs n.toNat)).map (·.2)) = n.toNat := by
    rw [List.map_cons, pairs_snd]; exact hv
  have := num_pos ((asc 0, 0) :: pairs asc (digs n.toNat)) (fun p hp => by
      rcases List.mem_cons.1 hp with rfl | hp
      · exact asc_dig 0 (by omega)
      · exact pairs_dig _ asc_dig _ (digs_le _) p hp) (by simp) (by rw [List.length_cons, hpl]; omega) (by rw [hdv]; omega)
  rw [List.map_cons, pairs_fst, hdv] at this
  rw [put_pos n hn]
  have e : cat (asc 0 :: (digs n.toNat).map asc) = ⟨#[48]⟩ ++ cat ((digs n.toNat).map asc) := rfl
  rw [← e]
  rw [this]
  congr 1
  omega

theorem conv_wide (wr : World) (b : Nat) (h1 : 48 ≤ b) (h2 : b ≤ 57) : (convert 42 9 (.slice (some ⟨wr.heap.size, 0, none⟩) 3 3)).run Tryd.prog (wr.alloc (.cells #[.int .u8 239, .int .u8 188, .int .u8 ((144 + (b : Int) - 48) % 256)] 5)) =
    .ok (.string (wid (b - 48))) (wr.alloc (.cells #[.int .u8 239, .int .u8 188, .int .u8 ((144 + (b : Int) - 48) % 256)] 5)) := by
  rw [run_convert_bytes_string _ 42 9 5 _ _ _ Tryd.underlying42 Tryd.underlying5 Tryd.underlying9]
  have hn := (heap_alloc wr (.cells #[.int .u8 239, .int .u8 188, .int .u8 ((144 + (b : Int) - 48) % 256)] 5)).1
  have hl : (loadCells ⟨wr.heap.size, 0, none⟩ 3).run Tryd.prog (wr.alloc (.cells #[.int .u8 239, .int .u8 188, .int .u8 ((144 + (b : Int) - 48) % 256)] 5)) = .ok (([239, 188, (144 + (b : Int) - 48) % 256] : List Int).map (Value.int .u8)).toArray (wr.alloc (.cells #[.int .u8 239, .int .u8 188, .int .u8 ((144 + (b : Int) - 48) % 256)] 5)) := by
    rw [run_loadCells _ ⟨wr.heap.size, 0, none⟩ 3 (fun j => .int .u8 (([239, 188, (144 + (b : Int) - 48) % 256] : List Int).getD j 0)) (fun j hj => by
      have hc : ∀ k, (wr.alloc (.cells #[.int .u8 239, .int .u8 188, .int .u8 ((144 + (b : Int) - 48) % 256)] 5)).cell? ⟨wr.heap.size, k, none⟩ = #[Value.int .u8 239, .int .u8 188, .int .u8 ((144 + (b : Int) - 48) % 256)][k]? := fun k => by simp only [World.cell?, hn]; rfl
      match j, hj with
      | 0, _ => exact hc 0
      | 1, _ => exact hc 1
      | 2, _ => exact hc 2)]
    rfl
  rw [run_bytesToString _ _ _ _ _ hl]
  have hz : ((144 + (b : Int) - 48) % 256).toNat = 144 + (b - 48) := by omega
  simp only [List.foldl_cons, List.foldl_nil, hz]
  rfl

theorem conv_rune (wr : World) (c : Int) (b : Nat) (hc : wr.cell? ⟨b, 0, none⟩ = some (.int .i32 c)) : (convert 43 9 (.slice (some ⟨b, 0, none⟩) 1 1)).run Tryd.prog wr = .ok (.string (Utf8.encode c)) wr := by
  have h := run_convert_runes (P := Tryd.prog) wr 43 9 21 ⟨b, 0, none⟩ 1 1 [c] (by simp) Tryd.underlying43 Tryd.underlying21 Tryd.underlying9 (fun j hj => by
    match j, hj with
    | 0, _ => exact hc)
  rw [h]
  have e : runesBytes ([c].take 1) = Utf8.encode c := by
    show ByteArray.empty ++ Utf8.encode c = _
    exact ByteArray.empty_append
  rw [e]

end Go.Proofs.YtbdiphffdmakoaaDoor
