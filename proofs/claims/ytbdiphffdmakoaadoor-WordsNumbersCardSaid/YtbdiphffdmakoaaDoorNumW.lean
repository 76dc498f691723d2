/- WordsNumbers answers true at every input, where the library's tables are as their initialisers lay them. -/
import Derived.Test.YtbdiphffdmakoaaDoorNumR
import Derived.Deep.DeepCutAuto
namespace Go.Proofs.YtbdiphffdmakoaaDoor
open Go Go.RowKit Go.MapKept Go.Shelf

set_option maxRecDepth 100000 in
set_option maxHeartbeats 1000000 in
theorem num_out (n q c a : Int) (wide : Bool) (w : World) (h : n < -1152921504606846976 ∨ 1152921504606846976 < n ∨ q < 0 ∨ 1 < q) (hT : Tabs w) :
    Calls Tryd.prog 6 #[.int .i64 n, .bool wide, .int .i64 q, .int .i32 c, .int .i64 a] w fun e w' => e = .returned (.bool true) ∧ Below w.heap.size w w' := by
  have hd : decide (n < -1152921504606846976) = true ∨ (decide (n < -1152921504606846976) = false ∧ decide (1152921504606846976 < n) = true) ∨ (decide (n < -1152921504606846976) = false ∧ decide (1152921504606846976 < n) = false ∧ decide (q < 0) = true) ∨
      (decide (n < -1152921504606846976) = false ∧ decide (1152921504606846976 < n) = false ∧ decide (q < 0) = false ∧ decide (1 < q) = true) := by
    by_cases h1 : n < -1152921504606846976
    · left; simpa using h1
    · by_cases h2 : 1152921504606846976 < n
      · right; left; exact ⟨by simpa using h1, by simpa using h2⟩
      · by_cases h3 : q < 0
        · right; right; left; exact ⟨by simpa using h1, by simpa using h2, by simpa using h3⟩
        · right; right; right; exact ⟨by simpa using h1, by simpa using h2, by simpa using h3, by simp; omega⟩
  clear h
  rcases hd with d1 | ⟨d1, d2⟩ | ⟨d1, d2, d3⟩ | ⟨d1, d2, d3, d4⟩
  all_goals
    go_enter Tryd.func6, Tryd.ntmps6
    go_wp2_with (go_at_call 8; refine (wakes_any _ hT).mono ?_; rintro e w2 ⟨rfl, hB2⟩)
    go_ret
    exact ⟨rfl, hB2⟩

/-- Is a rune one of a number's, where it stands? -/
def noneB (c : Int) (j : Nat) : Bool := decide (48 ≤ c ∧ c ≤ 57) || (decide (65296 ≤ c ∧ c ≤ 65305) || decide ((c = 45 ∨ c = 8722) ∧ j = 0))

theorem noneB_yes {c : Int} {j : Nat} (h : (48 ≤ c ∧ c ≤ 57) ∨ (65296 ≤ c ∧ c ≤ 65305) ∨ ((c = 45 ∨ c = 8722) ∧ j = 0)) : noneB c j = true := by
  unfold noneB
  rcases h with h | h | h
  · rw [decide_eq_true h]; rfl
  · rw [decide_eq_true (p := 65296 ≤ c ∧ c ≤ 65305) h]; simp
  · rw [decide_eq_true (p := (c = 45 ∨ c = 8722) ∧ j = 0) h]; simp
theorem noneB_no {c : Int} {j : Nat} (h1 : ¬ (48 ≤ c ∧ c ≤ 57)) (h2 : ¬ (65296 ≤ c ∧ c ≤ 65305)) (h3 : ¬ ((c = 45 ∨ c = 8722) ∧ j = 0)) : noneB c j = false := by
  unfold noneB
  rw [decide_eq_false h1, decide_eq_false h2, decide_eq_false h3]
  rfl
theorem noneB_not {c : Int} {j : Nat} (h : noneB c j = false) : ¬ (48 ≤ c ∧ c ≤ 57) ∧ ¬ (65296 ≤ c ∧ c ≤ 65305) ∧ ¬ ((c = 45 ∨ c = 8722) ∧ j = 0) := by
  unfold noneB at h
  simp only [Bool.or_eq_false_iff, decide_eq_false_iff_not] at h
  exact h

/-- The tests of a rune, each told. -/
theorem rune_ways (c : Int) (j : Nat) :
    (decide (48 ≤ c) = true ∧ decide (c ≤ 57) = true ∧ Hid (noneB c j = true)) ∨
    (decide (48 ≤ c) = false ∧ decide (65296 ≤ c) = false ∧ (c == 45) = false ∧ (c == 8722) = false ∧ Hid (noneB c j = false)) ∨
    (decide (48 ≤ c) = false ∧ decide (65296 ≤ c) = false ∧ (c == 45) = true ∧ ((j : Int) == 0) = true ∧ Hid (noneB c j = true)) ∨
    (decide (48 ≤ c) = false ∧ decide (65296 ≤ c) = false ∧ (c == 45) = true ∧ ((j : Int) == 0) = false ∧ Hid (noneB c j = false)) ∨
    (decide (48 ≤ c) = true ∧ decide (c ≤ 57) = false ∧ decide (65296 ≤ c) = false ∧ (c == 45) = false ∧ (c == 8722) = false ∧ Hid (noneB c j = false)) ∨
    (decide (48 ≤ c) = true ∧ decide (c ≤ 57) = false ∧ decide (65296 ≤ c) = false ∧ (c == 45) = false ∧ (c == 8722) = true ∧ ((j : Int) == 0) = true ∧ Hid (noneB c j = true)) ∨
    (decide (48 ≤ c) = true ∧ decide (c ≤ 57) = false ∧ decide (65296 ≤ c) = false ∧ (c == 45) = false ∧ (c == 8722) = true ∧ ((j : Int) == 0) = false ∧ Hid (noneB c j = false)) ∨
    (decide (48 ≤ c) = true ∧ decide (c ≤ 57) = false ∧ decide (65296 ≤ c) = true ∧ decide (c ≤ 65305) = true ∧ Hid (noneB c j = true)) ∨
    (decide (48 ≤ c) = true ∧ decide (c ≤ 57) = false ∧ decide (65296 ≤ c) = true ∧ decide (c ≤ 65305) = false ∧ (c == 45) = false ∧ (c == 8722) = false ∧ Hid (noneB c j = false)) := by
  by_cases h1 : 48 ≤ c
  · by_cases h2 : c ≤ 57
    · exact .inl ⟨by simpa using h1, by simpa using h2, Lib.hid (noneB_yes (.inl ⟨h1, h2⟩))⟩
    · by_cases h3 : 65296 ≤ c
      · by_cases h4 : c ≤ 65305
        · exact .inr (.inr (.inr (.inr (.inr (.inr (.inr (.inl ⟨by simpa using h1, by simpa using h2, by simpa using h3, by simpa using h4, Lib.hid (noneB_yes (.inr (.inl ⟨h3, h4⟩)))⟩)))))))
        · exact .inr (.inr (.inr (.inr (.inr (.inr (.inr (.inr ⟨by simpa using h1, by simpa using h2, by simpa using h3, by simpa using h4, by simp; omega, by simp; omega, Lib.hid (noneB_no (by omega) (by omega) (by omega))⟩)))))))
      · by_cases h5 : c = 8722
        · by_cases h6 : j = 0
          · exact .inr (.inr (.inr (.inr (.inr (.inl ⟨by simpa using h1, by simpa using h2, by simpa using h3, by simp; omega, by simpa using h5, by simpa using h6, Lib.hid (noneB_yes (.inr (.inr ⟨.inr h5, h6⟩)))⟩)))))
          · exact .inr (.inr (.inr (.inr (.inr (.inr (.inl ⟨by simpa using h1, by simpa using h2, by simpa using h3, by simp; omega, by simpa using h5, by simp; omega, Lib.hid (noneB_no (by omega) (by omega) (by omega))⟩))))))
        · exact .inr (.inr (.inr (.inr (.inl ⟨by simpa using h1, by simpa using h2, by simpa using h3, by simp; omega, by simpa using h5, Lib.hid (noneB_no (by omega) (by omega) (by omega))⟩))))
  · by_cases h5 : c = 45
    · by_cases h6 : j = 0
      · exact .inr (.inr (.inl ⟨by simpa using h1, by simp; omega, by simpa using h5, by simpa using h6, Lib.hid (noneB_yes (.inr (.inr ⟨.inl h5, h6⟩)))⟩))
      · exact .inr (.inr (.inr (.inl ⟨by simpa using h1, by simp; omega, by simpa using h5, by simp; omega, Lib.hid (noneB_no (by omega) (by omega) (by omega))⟩)))
    · exact .inr (.inl ⟨by simpa using h1, by simp; omega, by simpa using h5, by simp; omega, Lib.hid (noneB_no (by omega) (by omega) (by omega))⟩)

theorem at_range (a : Int) (m : Nat) (hm : m ≤ 20) : ∃ j : Nat, j ≤ m ∧ (wrap64 (wrap64 (a.tmod ((m : Int) + 1) + m) + 1)).tmod ((m : Int) + 1) = (j : Int) := by
  have h := tmod_range a ((m : Int) + 1) (by omega)
  have e1 : wrap64 (a.tmod ((m : Int) + 1) + m) = a.tmod ((m : Int) + 1) + m := by unfold wrap64; omega
  have e2 : wrap64 (a.tmod ((m : Int) + 1) + m + 1) = a.tmod ((m : Int) + 1) + m + 1 := by unfold wrap64; omega
  rw [e1, e2, Int.tmod_eq_emod_of_nonneg (by omega)]
  have h1 := Int.emod_nonneg (a.tmod ((m : Int) + 1) + m + 1) (b := (m : Int) + 1) (by omega)
  have h2 := Int.emod_lt_of_pos (a.tmod ((m : Int) + 1) + m + 1) (b := (m : Int) + 1) (by omega)
  exact ⟨((a.tmod ((m : Int) + 1) + m + 1) % ((m : Int) + 1)).toNat, by omega, by omega⟩

set_option maxRecDepth 100000 in
set_option maxHeartbeats 8000000 in
theorem num_walk (n q c a : Int) (wide : Bool) (w : World) (hn1 : -1152921504606846976 ≤ n) (hn2 : n ≤ 1152921504606846976) (hq0 : 0 ≤ q) (hq1 : q ≤ 1) (hT : Tabs w) :
    Calls Tryd.prog 6 #[.int .i64 n, .bool wide, .int .i64 q, .int .i32 c, .int .i64 a] w fun e w' => e = .returned (.bool true) ∧ Below w.heap.size w w' := by
  have d1 : decide (n < -1152921504606846976) = false := by simp; omega
  have d2 : decide (1152921504606846976 < n) = false := by simp; omega
  have d3 : decide (q < 0) = false := by simp; omega
  have d4 : decide (1 < q) = false := by simp; omega
  have hsz := put_size n hn1 hn2
  have HST := Lib.hid (stands_of_word (putS n) (put_word n))
  have HNUM := Lib.hid (num_put n hn1 hn2)
  go_enter Tryd.func6, Tryd.ntmps6
  go_wp2_with fail
  refine (put_s n (by omega) (by omega) _ hT).mono ?_
  rintro e w1 ⟨rfl, hB1⟩
  clear d1 d2 d3 d4
  have hT1 := hT.below hB1
  obtain ⟨s, hs⟩ : ∃ s, putS n = s := ⟨_, rfl⟩
  have HS := Lib.hid hs
  rw [hs] at hsz HST HNUM ⊢
  clear hs
  go_wp2_with fail
  refine (number_is s _ _ _ (by unfold maxLen; omega) HNUM.out).mono ?_
  rintro e w2 ⟨rfl, hB2⟩
  have hB02 := hB1.trans (hB2.mono hB1.size)
  have hT2 := hT.below hB02
  clear hB1 hB2
  go_wp2_with fail
  refine (stands_yes s _ (by omega) hT2 HST.out).mono ?_
  rintro e w3 ⟨rfl, hB3⟩
  have hB03 := hB02.trans (hB3.mono hB02.size)
  clear hB02 hB3
  go_wp2_with fail
  obtain ⟨E, hE⟩ : ∃ E, ((q == 1) && decide (s.size < 19)) = E := ⟨_, rfl⟩
  have hways : ((q == 1) = false ∧ Hid (E = false)) ∨ ((q == 1) = true ∧ decide ((s.size : Int) < 19) = true ∧ Hid (E = true)) ∨ ((q == 1) = true ∧ decide ((s.size : Int) < 19) = false ∧ Hid (E = false)) := by
    cases hq : (q == 1) with
    | false => left; exact ⟨rfl, Lib.hid (by rw [← hE, hq]; rfl)⟩
    | true =>
      right
      by_cases h19 : s.size < 19
      · left; exact ⟨rfl, by simp; omega, Lib.hid (by rw [← hE, hq]; simpa using h19)⟩
      · right; exact ⟨rfl, by simp; omega, Lib.hid (by rw [← hE, hq]; simpa using h19)⟩
  clear hE
  go_loopw [14, 15] (fun v14 v15 wr => ∃ (k : Nat) (t : ByteArray), k ≤ s.size ∧ v14 = .string t ∧ v15 = .int .i64 k ∧ TRel n wide E k t ∧ Below w.heap.size w wr) (fun _ v15 _ => s.size - (intOf v15).toNat)
  case atStart => exact ⟨0, ⟨#[]⟩, by omega, rfl, rfl, ⟨by decide, fun _ => .inl ⟨rfl, rfl⟩, fun _ => .inr rfl⟩, hB03⟩
  case round =>
    obtain ⟨k, t, hk, rfl, rfl, hrel, hB⟩ := hrel
    have hts : t.size ≤ 80 := by have := hrel.1; omega
    have HREL := Lib.hid hrel
    clear hrel
    by_cases hlt : k < s.size
    · rcases byte_cases n s HS.out k hlt with ⟨hneg, hk0, h45⟩ | ⟨d, hd, hbn, hbe, hcase⟩
      · have e45 : ((s[k].toNat : Int) == 45) = true := by rw [h45]; rfl
        have HK := Lib.hid hk0
        clear h45 hk0
        rcases hways with ⟨hq, HE⟩ | ⟨hq, d5, HE⟩ | ⟨hq, d5, HE⟩
        · have HR : Hid (TRel n wide E (k + 1) (t ++ ⟨#[226, 136, 146]⟩)) := Lib.hid (by
            have h := HREL.out
            rw [HE.out, HK.out] at h
            rw [HE.out, HK.out]
            exact trel_minus n wide t hneg h)
          as_aux_lemma =>
            go_wp2
            go_roundw
            case rel => exact ⟨k + 1, _, by omega, rfl, by go_num, HR.out, hB⟩
            case measure => simp [intOf]; omega
        · have HR : Hid (TRel n wide E (k + 1) (t ++ ⟨#[226, 136, 146]⟩ ++ ⟨#[48]⟩)) := Lib.hid (by
            have h := HREL.out
            rw [HE.out, HK.out] at h
            rw [HE.out, HK.out]
            exact trel_minus0 n wide t hneg h)
          as_aux_lemma =>
            go_wp2
            go_roundw
            case rel => exact ⟨k + 1, _, by omega, rfl, by go_num, HR.out, hB⟩
            case measure => simp [intOf]; omega
        · have HR : Hid (TRel n wide E (k + 1) (t ++ ⟨#[226, 136, 146]⟩)) := Lib.hid (by
            have h := HREL.out
            rw [HE.out, HK.out] at h
            rw [HE.out, HK.out]
            exact trel_minus n wide t hneg h)
          as_aux_lemma =>
            go_wp2
            go_roundw
            case rel => exact ⟨k + 1, _, by omega, rfl, by go_num, HR.out, hB⟩
            case measure => simp [intOf]; omega
      · have e45 : ((s[k].toNat : Int) == 45) = false := by simp; omega
        have hb1 : 48 ≤ s[k].toNat := by omega
        have hb2 : s[k].toNat ≤ 57 := by omega
        have hd48 : s[k].toNat - 48 = d := by omega
        have hcv := conv_wide wr s[k].toNat hb1 hb2
        rw [hd48, show (144 + (s[k].toNat : Int) - 48) % 256 = 144 + (s[k].toNat : Int) - 48 by omega] at hcv
        have hex := ext_one s k d hlt hbe
        have htr := trP_size wide d
        have hwsz : (wid d).size ≤ 3 := Nat.le_refl 3
        have hasz : (asc d).size ≤ 3 := by show 1 ≤ 3; omega
        have HBN := Lib.hid hbn
        have HBE := Lib.hid hbe
        clear hbn hbe hd48
        have hcase2 : ((k : Int) == 0) = false ∨ ((k : Int) == 0) = true ∧ decide (0 ≤ n) = true := by
          rcases hcase with ⟨hn, hk, _⟩ | ⟨hn, _⟩
          · left; simp; omega
          · by_cases hk0 : k = 0
            · right; exact ⟨by simp [hk0], by simpa using hn⟩
            · left; simp; omega
        have hplain : TRel n wide E (k + 1) (t ++ trP wide d) := by
          rcases hcase with ⟨hn, hk, hdd⟩ | ⟨hn, hdd⟩
          · exact trel_neg n wide E k d t hn hk hdd HREL.out
          · exact trel_pos n wide E k d t hn hdd HREL.out
        have HPL := Lib.hid hplain
        clear hcase hplain
        rcases hcase2 with hk1 | ⟨hk1, hn0⟩
        · cases wide with
          | true =>
            have HP2 : Hid (TRel n true E (k + 1) (t ++ wid d)) := HPL
            clear HPL hex
            as_aux_lemma =>
              go_wp2
              go_roundw
              case rel => exact ⟨k + 1, _, by omega, rfl, by go_num, HP2.out, hB.alloc hB.size _⟩
              case measure => simp [intOf]; omega
          | false =>
            have HP2 : Hid (TRel n false E (k + 1) (t ++ asc d)) := HPL
            clear HPL hcv
            as_aux_lemma =>
              go_wp2
              go_roundw
              case rel => exact ⟨k + 1, _, by omega, rfl, by go_num, HP2.out, hB⟩
              case measure => simp [intOf]; omega
        · have hnn : 0 ≤ n := by simpa using hn0
          rcases hways with ⟨hq, HE⟩ | ⟨hq, d5, HE⟩ | ⟨hq, d5, HE⟩
          · cases wide with
            | true =>
              have HP2 : Hid (TRel n true E (k + 1) (t ++ wid d)) := HPL
              clear HPL hex hnn
              as_aux_lemma =>
                go_wp2
                go_roundw
                case rel => exact ⟨k + 1, _, by omega, rfl, by go_num, HP2.out, hB.alloc hB.size _⟩
                case measure => simp [intOf]; omega
            | false =>
              have HP2 : Hid (TRel n false E (k + 1) (t ++ asc d)) := HPL
              clear HPL hcv hnn
              as_aux_lemma =>
                go_wp2
                go_roundw
                case rel => exact ⟨k + 1, _, by omega, rfl, by go_num, HP2.out, hB⟩
                case measure => simp [intOf]; omega
          · cases wide with
            | true =>
              have HP2 : Hid (TRel n true E (k + 1) (t ++ wid d ++ ⟨#[48]⟩)) := Lib.hid (by
                have h := HREL.out
                rw [HE.out] at h ⊢
                exact trel_extra n true k d t hnn h)
              clear HPL hex hnn
              as_aux_lemma =>
                go_wp2
                go_roundw
                case rel => exact ⟨k + 1, _, by omega, rfl, by go_num, HP2.out, hB.alloc hB.size _⟩
                case measure => simp [intOf]; omega
            | false =>
              have HP2 : Hid (TRel n false E (k + 1) (t ++ asc d ++ ⟨#[48]⟩)) := Lib.hid (by
                have h := HREL.out
                rw [HE.out] at h ⊢
                exact trel_extra n false k d t hnn h)
              clear HPL hcv hnn
              as_aux_lemma =>
                go_wp2
                go_roundw
                case rel => exact ⟨k + 1, _, by omega, rfl, by go_num, HP2.out, hB⟩
                case measure => simp [intOf]; omega
          · cases wide with
            | true =>
              have HP2 : Hid (TRel n true E (k + 1) (t ++ wid d)) := HPL
              clear HPL hex hnn
              as_aux_lemma =>
                go_wp2
                go_roundw
                case rel => exact ⟨k + 1, _, by omega, rfl, by go_num, HP2.out, hB.alloc hB.size _⟩
                case measure => simp [intOf]; omega
            | false =>
              have HP2 : Hid (TRel n false E (k + 1) (t ++ asc d)) := HPL
              clear HPL hcv hnn
              as_aux_lemma =>
                go_wp2
                go_roundw
                case rel => exact ⟨k + 1, _, by omega, rfl, by go_num, HP2.out, hB⟩
                case measure => simp [intOf]; omega
    · obtain rfl : k = s.size := by omega
      have hdn : decide (0 ≤ n) = true ∨ decide (0 ≤ n) = false := by cases decide (0 ≤ n) <;> simp
      go_upto_region 18 with (fail)
      go_cut [119] (fun s119 wx => s119 = .bool ((q == 1) && (decide (0 ≤ n) && decide ((s.size : Int) < 19))) ∧ wr = wx)
      case first =>
        rcases hways with ⟨hq, HE⟩ | ⟨hq, d5, HE⟩ | ⟨hq, d5, HE⟩
        · go_wp2
          go_meet
          exact ⟨by rw [hq]; rfl, rfl⟩
        · rcases hdn with hdn | hdn
          · go_wp2
            go_meet
            exact ⟨by rw [hq, hdn, d5]; rfl, rfl⟩
          · go_wp2
            go_meet
            exact ⟨by rw [hq, hdn]; rfl, rfl⟩
        · rcases hdn with hdn | hdn
          · go_wp2
            go_meet
            exact ⟨by rw [hq, hdn, d5]; rfl, rfl⟩
          · go_wp2
            go_meet
            exact ⟨by rw [hq, hdn]; rfl, rfl⟩
      case rest =>
        obtain ⟨rfl, rfl⟩ := hcut
        obtain ⟨B, hBe⟩ : ∃ B : Bool, ((q == 1) && (decide (0 ≤ n) && decide ((s.size : Int) < 19))) = B := ⟨_, rfl⟩
        have HT14 : Hid (B = true → numR ((⟨#[48]⟩ : ByteArray) ++ s) = (n, 0)) := Lib.hid (fun hb => by
          rw [hb] at hBe
          simp only [Bool.and_eq_true, decide_eq_true_eq] at hBe
          rw [← HS.out]
          exact nought_num n hBe.2.1 hn2)
        have HF14 : Hid (B = false → numR t = (n, 0)) := Lib.hid (fun hb => by
          refine trel_num n wide E t hn1 hn2 (by rw [HS.out]; exact HREL.out) ?_
          rcases hways with ⟨hq, HE⟩ | ⟨hq, d5, HE⟩ | ⟨hq, d5, HE⟩
          · exact .inr HE.out
          · left
            rw [hb, hq, d5] at hBe
            simp at hBe
            exact hBe
          · exact .inr HE.out)
        rw [hBe]
        clear hBe hways hdn
        go_upto_if 119 with (fail)
        go_cut [14] (fun s14 wx => ∃ T : ByteArray, s14 = .string T ∧ T.size ≤ 100 ∧ Hid (numR T = (n, 0)) ∧ wr = wx)
        case first =>
          cases B with
          | true =>
            as_aux_lemma =>
              go_wp2
              go_meet
              exact ⟨_, rfl, by rw [app_size]; show 1 + _ ≤ 100; omega, Lib.hid (HT14.out (by simp)), rfl⟩
          | false =>
            as_aux_lemma =>
              go_wp2
              go_meet
              exact ⟨_, rfl, by omega, Lib.hid (HF14.out (by simp)), rfl⟩
        case rest =>
          obtain ⟨T, rfl, hTs, HNT, rfl⟩ := hcut
          clear HT14 HF14 HREL hts
          go_wp2_with fail
          refine (number_is T _ _ _ (by unfold maxLen; omega) HNT.out).mono ?_
          rintro e w4 ⟨rfl, hB4⟩
          have hB04 := hB.trans (hB4.mono hB.size)
          clear hB4
          obtain ⟨j, hj, hja⟩ := at_range a s.size hsz
          go_upto_region 24 with (fail)
          clear hja
          go_cut [18] (fun s18 wx => s18 = .bool (noneB c j) ∧ w4 = wx)
          case first =>
            rcases rune_ways c j with ⟨b1, b2, HN⟩ | ⟨b1, b3, b5, b6, HN⟩ | ⟨b1, b3, b5, b7, HN⟩ | ⟨b1, b3, b5, b7, HN⟩ | ⟨b1, b2, b3, b5, b6, HN⟩ | ⟨b1, b2, b3, b5, b6, b7, HN⟩ | ⟨b1, b2, b3, b5, b6, b7, HN⟩ | ⟨b1, b2, b3, b4, HN⟩ | ⟨b1, b2, b3, b4, b5, b6, HN⟩
            all_goals
              as_aux_lemma =>
                go_wp2
                go_meet
                exact ⟨by rw [HN.out], rfl⟩
          case rest =>
            obtain ⟨rfl, rfl⟩ := hcut
            have hjs : j ≤ s.size := hj
            have henc := encode_size_le c
            have hs0 : (s.extract 0 j).size ≤ 20 := by have := ext_len_le s 0 j; omega
            have hs1 : (s.extract j s.size).size ≤ 20 := by have := ext_len_le s j s.size; omega
            have hbig : (s.extract 0 j ++ Utf8.encode c ++ s.extract j s.size).size ≤ 100 := by rw [app_size, app_size]; omega
            have hcell := cell_one_new w4 (.int .i32 c) 21 0 _ rfl
            have hcv := fun W (h : W.cell? ⟨w4.heap.size, 0, none⟩ = some (.int .i32 c)) => conv_rune W c w4.heap.size h
            obtain ⟨g, hg⟩ : ∃ g : Int × Int, numR (s.extract 0 j ++ Utf8.encode c ++ s.extract j s.size) = g := ⟨_, rfl⟩
            have HG := Lib.hid hg
            clear hg
            have HN12 : Hid (noneB c j = false → (g.2 == 12) = true) := Lib.hid (fun hN => by
              obtain ⟨h1, h2, h3⟩ := noneB_not hN
              have hs' := HS.out
              have h := num_other n c j (by rw [hs']; exact hj) h1 h2 h3
              rw [hs', HG.out] at h
              rw [h]; rfl)
            go_upto_region 25 with (fail)
            go_cut [20] (fun s20 wx => s20 = .int .i64 g.2 ∧ Below w.heap.size w wx)
            case first => as_aux_lemma =>
              go_region_with (go_at_call 11; refine (number_is _ g.1 g.2 _ (by unfold maxLen; omega) HG.out).mono ?_; rintro e w5 ⟨rfl, hB5⟩)
              all_goals
                go_wp2_with fail
                go_meet
                exact ⟨rfl, ((hB04.alloc hB04.size (.cells #[.int .i32 c] 21)).drew).trans (hB5.mono (Nat.le_trans hB04.size (by simp)))⟩
            case rest =>
              obtain ⟨rfl, hBc⟩ := hcut
              have hTc := hT.below hBc
              clear hcv hcell HG
              rcases Bool.eq_false_or_eq_true (noneB c j) with hN | hN
              · clear HN12
                go_wp2_with (go_at_call 8; refine (wakes_any _ hTc).mono ?_; rintro e w6 ⟨rfl, hB6⟩)
                go_ret
                exact ⟨rfl, hBc.trans (hB6.mono hBc.size)⟩
              · have h12 := HN12.out hN
                clear HN12
                go_wp2_with (go_at_call 8; refine (wakes_any _ hTc).mono ?_; rintro e w6 ⟨rfl, hB6⟩)
                go_ret
                exact ⟨rfl, hBc.trans (hB6.mono hBc.size)⟩

end Go.Proofs.YtbdiphffdmakoaaDoor
