/- Contracts of the document's own Count, digit, Put, Join and Same (gyreref01), for every input that the law WordsTells hands them. -/
import Derived.Test.YtbdiphffdmakoaaDoorBackW
import Derived.Test.YtbdiphffdmakoaaDoorW9
namespace Go.Proofs.YtbdiphffdmakoaaDoor
open Go Go.RowKit Go.MapKept Go.Shelf

set_option maxRecDepth 100000 in
set_option maxHeartbeats 1000000 in
theorem refCount_any (s : ByteArray) (w : World) (hs : s.size ≤ 2000000) (hT : Tabs w) :
    Calls Tryd.prog 15 #[.string s] w fun e w' => e = .returned (.int .i64 (runes s).length) ∧ Below w.heap.size w w' := by
  go_enter Tryd.func15, Tryd.ntmps15
  go_wp2
  go_loopw [0, 3] (fun v0 v3 wr => ∃ (pos f k : Nat) (t : ByteArray), v0 = .string t ∧ Hid (t = s.extract pos s.size) ∧ t.size + pos = s.size ∧ v3 = .int .i64 k ∧ s.size ≤ pos + f ∧ Hid (k + (runesF s f pos).length = (runes s).length) ∧ Below w.heap.size w wr) (fun v0 _ _ => match v0 with | .string t => t.size | _ => 0)
  case atStart => exact ⟨0, s.size, 0, s, rfl, Lib.hid (ext_all s).symm, by omega, rfl, by omega, Lib.hid (by simp [runes]), Below.refl _ _⟩
  case round =>
    obtain ⟨pos, f, k, t, rfl, HT, hts, rfl, hf, HL, hB⟩ := hrel
    have HTS := Lib.hid hts
    have hl := runes_len s
    by_cases hp : pos < s.size
    · have hpt : 0 < t.size := by omega
      have hwd := width_pos s pos hp
      have hwl := width_le s pos hp
      have hwt : (Utf8.decode s pos).2 ≤ t.size := by omega
      have T2 : Lib.Utf8Tabs 0 1 wr := (hT.below hB).utf
      clear hts
      cases f with
      | zero => omega
      | succ f =>
      have HL2 : Hid (k + 1 + (runesF s f (pos + (Utf8.decode s pos).2)).length = (runes s).length) := Lib.hid (by rw [← HL.out]; simp [runesF, hp]; omega)
      have hk : k + 1 ≤ s.size := by have := HL2.out; omega
      go_wp2_with (go_at_call 26; refine (refNext_at s t pos _ T2 HT.out hp).mono ?_; rintro e w2 ⟨rfl, hB2⟩)
      go_roundw
      case rel =>
        refine ⟨pos + (Utf8.decode s pos).2, f, k + 1, _, rfl, Lib.hid ?_, ?_, by go_num, by omega, HL2.out, hB.trans (hB2.mono hB.size)⟩
        · rw [HT.out]; exact ext_ext s pos _
        · have := HTS.out
          have e : (t.extract (Utf8.decode s pos).2 t.size).size = t.size - (Utf8.decode s pos).2 := by simp
          omega
      case measure =>
        have e : (t.extract (Utf8.decode s pos).2 t.size).size = t.size - (Utf8.decode s pos).2 := by simp
        simp; omega
    · have hpt : t.size = 0 := by omega
      have hk : k = (runes s).length := by have := HL.out; rw [runesF_end s f pos hp] at this; simpa using this
      clear hts
      subst hk
      go_wp2
      go_ret
      exact ⟨rfl, hB⟩

/-- A rune's number; -1: it is no digit. -/
def digV (c : Int) : Int := if 48 ≤ c ∧ c ≤ 57 then c - 48 else if 65296 ≤ c ∧ c ≤ 65305 then c - 65296 else -1

set_option maxRecDepth 100000 in
set_option maxHeartbeats 1000000 in
theorem refDigit_any (c : Int) (w : World) : Calls Tryd.prog 30 #[.int .i32 c] w fun e w' => e = .returned (.int .i64 (digV c)) ∧ w = w' := by
  by_cases h1 : 48 ≤ c
  · have d1 : decide (48 ≤ c) = true := by simpa using h1
    by_cases h2 : c ≤ 57
    · have d2 : decide (c ≤ 57) = true := by simpa using h2
      have H : Hid (digV c = c - 48) := Lib.hid (by unfold digV; rw [if_pos ⟨h1, h2⟩])
      go_enter Tryd.func30, Tryd.ntmps30
      go_wp2
      go_ret
      rw [H.out]
      exact ⟨rfl, rfl⟩
    · have d2 : decide (c ≤ 57) = false := by simpa using h2
      by_cases h3 : 65296 ≤ c
      · have d3 : decide (65296 ≤ c) = true := by simpa using h3
        by_cases h4 : c ≤ 65305
        · have d4 : decide (c ≤ 65305) = true := by simpa using h4
          have H : Hid (digV c = c - 65296) := Lib.hid (by unfold digV; rw [if_neg (by omega), if_pos ⟨h3, h4⟩])
          go_enter Tryd.func30, Tryd.ntmps30
          go_wp2
          go_ret
          rw [H.out]
          exact ⟨rfl, rfl⟩
        · have d4 : decide (c ≤ 65305) = false := by simpa using h4
          have H : Hid (digV c = -1) := Lib.hid (by unfold digV; rw [if_neg (by omega), if_neg (by omega)])
          go_enter Tryd.func30, Tryd.ntmps30
          go_wp2
          go_ret
          rw [H.out]
          exact ⟨rfl, rfl⟩
      · have d3 : decide (65296 ≤ c) = false := by simpa using h3
        have H : Hid (digV c = -1) := Lib.hid (by unfold digV; rw [if_neg (by omega), if_neg (by omega)])
        go_enter Tryd.func30, Tryd.ntmps30
        go_wp2
        go_ret
        rw [H.out]
        exact ⟨rfl, rfl⟩
  · have d1 : decide (48 ≤ c) = false := by simpa using h1
    have d3 : decide (65296 ≤ c) = false := by simp; omega
    have H : Hid (digV c = -1) := Lib.hid (by unfold digV; rw [if_neg (by omega), if_neg (by omega)])
    go_enter Tryd.func30, Tryd.ntmps30
    go_wp2
    go_ret
    rw [H.out]
    exact ⟨rfl, rfl⟩

set_option maxRecDepth 100000 in
theorem refPut_any (n : Int) (h0 : -9223372036854775808 ≤ n) (h1 : n ≤ 9223372036854775807) (w : World) (hT : Tabs w) :
    Calls Tryd.prog 19 #[.int .i64 n] w fun e w' => e = .returned (.string ⟨(Lib.itoa n).toArray⟩) ∧ Below w.heap.size w w' := by
  go_enter Tryd.func19, Tryd.ntmps19
  go_wp2_with (go_at_call 31; refine (Tryd.strconv_Itoa n h0 h1 _ hT.pow).mono ?_; rintro e w' ⟨rfl, k, os, rfl⟩)
  go_ret
  exact ⟨rfl, grow_below w k os⟩

/-! ### Join -/

theorem joinR_snoc (l : List ByteArray) (x : ByteArray) (h : l ≠ []) : joinR (l ++ [x]) = joinR l ++ ⟨#[32]⟩ ++ x := by
  apply ba_ext
  have e : (joinR l ++ ⟨#[32]⟩ ++ x).data.toList = (joinR l).data.toList ++ [32] ++ x.data.toList := by simp
  rw [e]
  unfold joinR
  show Lib.join ((l ++ [x]).map (·.data.toList)) [32] = Lib.join (l.map (·.data.toList)) [32] ++ [32] ++ x.data.toList
  match l, h with
  | y :: r, _ =>
    have h1 := Lib.join_cons y.data.toList ((r ++ [x]).map (·.data.toList)) [32]
    have h2 := Lib.join_cons y.data.toList (r.map (·.data.toList)) [32]
    simp only [List.cons_append, List.map_cons]
    rw [h1, h2]
    simp [Lib.joinTail]

theorem joinR_one (x : ByteArray) : joinR [x] = x := by
  apply ba_ext
  unfold joinR
  show Lib.join ([x].map (·.data.toList)) [32] = x.data.toList
  rw [List.map_cons, List.map_nil, Lib.join_one]

theorem joinR_nil : joinR [] = ⟨#[]⟩ := rfl

theorem take_snoc_b (l : List ByteArray) (k : Nat) (x : ByteArray) (h : l[k]? = some x) : l.take (k + 1) = l.take k ++ [x] := by
  have hk := (List.getElem?_eq_some_iff.1 h).1
  rw [List.take_succ_eq_append_getElem hk, (List.getElem?_eq_some_iff.1 h).2]

set_option maxRecDepth 100000 in
set_option maxHeartbeats 1000000 in
theorem refJoin_any (p : Option Addr) (bk o c : Nat) (xs : List ByteArray) (w : World) (hp : 0 < xs.length → p = some ⟨bk, o, none⟩) (hx : TextsAt w bk o xs) (hz : ∀ x ∈ xs, x.size ≤ 100) (hn : xs.length ≤ 20) :
    Calls Tryd.prog 21 #[.slice p xs.length c] w fun e w' => e = .returned (.string (joinR xs)) ∧ w = w' := by
  go_enter Tryd.func21, Tryd.ntmps21
  go_wp2
  go_loop [3, 4] (fun v3 v4 => ∃ (k : Nat) (t : ByteArray), k ≤ xs.length ∧ v4 = .int .i64 k ∧ v3 = .string t ∧ Hid (t = joinR (xs.take k)) ∧ t.size ≤ 101 * k) (fun _ v4 => xs.length - (intOf v4).toNat)
  case atStart => exact ⟨0, ⟨#[]⟩, by omega, rfl, rfl, Lib.hid rfl, by decide⟩
  case round =>
    obtain ⟨k, t, hk, rfl, rfl, HT, hts⟩ := hrel
    by_cases hlt : k < xs.length
    · obtain rfl := hp (by omega)
      have hcell := hx.at k hlt
      have hxk := getD_get xs k hlt
      have hzk := hz _ (List.mem_of_getElem? hxk)
      obtain ⟨x, hxe⟩ : ∃ x, xs.getD k ⟨#[]⟩ = x := ⟨_, rfl⟩
      rw [hxe] at hcell hxk hzk
      have HXK := Lib.hid hxk
      clear hxe hxk
      by_cases hk0 : 0 < k
      · have d0 : decide (0 < (k : Int)) = true := by simp; omega
        go_wp2
        go_round
        case rel =>
          refine ⟨k + 1, _, by omega, by go_num, rfl, Lib.hid ?_, by rw [app_size, app_size]; show _ + 1 + _ ≤ _; omega⟩
          rw [take_snoc_b _ _ _ HXK.out, joinR_snoc _ _ (by intro e; have := congrArg List.length e; rw [List.length_take, List.length_nil] at this; omega), HT.out]
        case measure => simp [intOf]; omega
      · have d0 : decide (0 < (k : Int)) = false := by simp; omega
        have hk1 : k = 0 := by omega
        have HK := Lib.hid hk1
        clear hk1
        go_wp2
        go_round
        case rel =>
          refine ⟨k + 1, _, by omega, by go_num, rfl, Lib.hid ?_, by rw [app_size]; omega⟩
          have hk1 := HK.out
          have hx1 := HXK.out
          have ht := HT.out
          subst hk1
          rw [take_snoc_b _ _ _ hx1, List.take_zero, List.nil_append, joinR_one, ht, List.take_zero, joinR_nil]
          exact ByteArray.empty_append
        case measure => simp [intOf]; omega
    · obtain rfl : k = xs.length := by omega
      have ht : t = joinR xs := by rw [HT.out, List.take_of_length_le (Nat.le_refl _)]
      subst ht
      go_wp2
      go_ret
      exact ⟨rfl, rfl⟩

end Go.Proofs.YtbdiphffdmakoaaDoor
