/- Plain facts of a number's text with another rune among its own. -/
import Derived.Test.YtbdiphffdmakoaaDoorNumP
namespace Go.Proofs.YtbdiphffdmakoaaDoor
open Go Go.RowKit

theorem u8_nat (k : Nat) (h : k < 256) : (UInt8.ofNat k).toNat = k := by
  rw [UInt8.toNat_ofNat']; omega

theorem get_enc (a : Array UInt8) (y : ByteArray) (k : Nat) (hk : k < a.size) : ((⟨a⟩ : ByteArray) ++ y).get! (0 + k) = a[k] := by
  rw [Nat.zero_add, get_left _ _ _ hk, get_list]
  simp [hk]

/-- What a rune is told as once it is encoded. -/
def runeT (c : Int) : Nat := if Utf8.valid c then c.toNat else 65533

theorem valid_le (c : Int) (h : Utf8.valid c = true) : 0 ≤ c ∧ c ≤ 1114111 ∧ ¬ (55296 ≤ c ∧ c < 57344) := by
  unfold Utf8.valid at h
  simp at h
  omega

theorem dec_enc (c : Int) (y : ByteArray) : (Utf8.decode (Utf8.encode c ++ y) 0).1 = runeT c := by
  have hr : runeT c ≤ 1114111 ∧ Utf8.valid (runeT c) = true := by
    unfold runeT
    split
    · rename_i h
      have := valid_le c h
      refine ⟨by omega, ?_⟩
      rw [show ((c.toNat : Nat) : Int) = c by omega]; exact h
    · exact ⟨by decide, by decide⟩
  have he : Utf8.encode c = (if runeT c < 0x80 then ⟨#[UInt8.ofNat (runeT c)]⟩
      else if runeT c < 0x800 then ⟨#[UInt8.ofNat (0xC0 + runeT c / 64), UInt8.ofNat (0x80 + runeT c % 64)]⟩
      else if runeT c < 0x10000 then ⟨#[UInt8.ofNat (0xE0 + runeT c / 4096), UInt8.ofNat (0x80 + runeT c / 64 % 64), UInt8.ofNat (0x80 + runeT c % 64)]⟩
      else ⟨#[UInt8.ofNat (0xF0 + runeT c / 262144), UInt8.ofNat (0x80 + runeT c / 4096 % 64), UInt8.ofNat (0x80 + runeT c / 64 % 64), UInt8.ofNat (0x80 + runeT c % 64)]⟩) := rfl
  obtain ⟨r, hrc⟩ : ∃ r, runeT c = r := ⟨_, rfl⟩
  rw [hrc] at hr he ⊢
  obtain ⟨hle, hv⟩ := hr
  by_cases h1 : r < 0x80
  · rw [if_pos h1] at he
    rw [he]
    have g0 := get_enc #[UInt8.ofNat r] y 0 (by simp)
    simp only [List.getElem_toArray, List.getElem_cons_zero] at g0
    have b0 := u8_nat r (by omega)
    unfold Utf8.decode
    simp only [g0, b0]
    rw [if_pos h1]
  · rw [if_neg h1] at he
    by_cases h2 : r < 0x800
    · rw [if_pos h2] at he
      rw [he]
      have g0 := get_enc #[UInt8.ofNat (0xC0 + r / 64), UInt8.ofNat (0x80 + r % 64)] y 0 (by simp)
      have g1 := get_enc #[UInt8.ofNat (0xC0 + r / 64), UInt8.ofNat (0x80 + r % 64)] y 1 (by simp)
      simp only [List.getElem_toArray, List.getElem_cons_zero, List.getElem_cons_succ] at g0 g1
      have b0 := u8_nat (0xC0 + r / 64) (by omega)
      have b1 := u8_nat (0x80 + r % 64) (by omega)
      have s1 : 0 + 1 < ((⟨#[UInt8.ofNat (0xC0 + r / 64), UInt8.ofNat (0x80 + r % 64)]⟩ : ByteArray) ++ y).size := by rw [app_size]; show 0 + 1 < 2 + _; omega
      unfold Utf8.decode
      simp only [g0, g1, b0, b1, s1]
      rw [if_neg (by omega), if_pos (by simp; omega), if_pos (by omega)]
      simp only []
      omega
    · rw [if_neg h2] at he
      by_cases h3 : r < 0x10000
      · rw [if_pos h3] at he
        rw [he]
        have g0 := get_enc #[UInt8.ofNat (0xE0 + r / 4096), UInt8.ofNat (0x80 + r / 64 % 64), UInt8.ofNat (0x80 + r % 64)] y 0 (by simp)
        have g1 := get_enc #[UInt8.ofNat (0xE0 + r / 4096), UInt8.ofNat (0x80 + r / 64 % 64), UInt8.ofNat (0x80 + r % 64)] y 1 (by simp)
        have g2 := get_enc #[UInt8.ofNat (0xE0 + r / 4096), UInt8.ofNat (0x80 + r / 64 % 64), UInt8.ofNat (0x80 + r % 64)] y 2 (by simp)
        simp only [List.getElem_toArray, List.getElem_cons_zero, List.getElem_cons_succ] at g0 g1 g2
        have b0 := u8_nat (0xE0 + r / 4096) (by omega)
        have b1 := u8_nat (0x80 + r / 64 % 64) (by omega)
        have b2 := u8_nat (0x80 + r % 64) (by omega)
        have hs : ((⟨#[UInt8.ofNat (0xE0 + r / 4096), UInt8.ofNat (0x80 + r / 64 % 64), UInt8.ofNat (0x80 + r % 64)]⟩ : ByteArray) ++ y).size = 3 + y.size := app_size _ _
        have s1 : 0 + 1 < ((⟨#[UInt8.ofNat (0xE0 + r / 4096), UInt8.ofNat (0x80 + r / 64 % 64), UInt8.ofNat (0x80 + r % 64)]⟩ : ByteArray) ++ y).size := by omega
        have s2 : 0 + 2 < ((⟨#[UInt8.ofNat (0xE0 + r / 4096), UInt8.ofNat (0x80 + r / 64 % 64), UInt8.ofNat (0x80 + r % 64)]⟩ : ByteArray) ++ y).size := by omega
        have hc : (0xE0 + r / 4096) % 16 * 4096 + (0x80 + r / 64 % 64) % 64 * 64 + (0x80 + r % 64) % 64 = r := by omega
        unfold Utf8.decode
        simp only [g0, g1, g2, b0, b1, b2, s1, s2, hc]
        rw [if_neg (by omega), if_neg (by simp; omega), if_pos (by simp; omega), if_pos (by simp [hv]; omega)]
      · rw [if_neg h3] at he
        rw [he]
        have g0 := get_enc #[UInt8.ofNat (0xF0 + r / 262144), UInt8.ofNat (0x80 + r / 4096 % 64), UInt8.ofNat (0x80 + r / 64 % 64), UInt8.ofNat (0x80 + r % 64)] y 0 (by simp)
        have g1 := get_enc #[UInt8.ofNat (0xF0 + r / 262144), UInt8.ofNat (0x80 + r / 4096 % 64), UInt8.ofNat (0x80 + r / 64 % 64), UInt8.ofNat (0x80 + r % 64)] y 1 (by simp)
        have g2 := get_enc #[UInt8.ofNat (0xF0 + r / 262144), UInt8.ofNat (0x80 + r / 4096 % 64), UInt8.ofNat (0x80 + r / 64 % 64), UInt8.ofNat (0x80 + r % 64)] y 2 (by simp)
        have g3 := get_enc #[UInt8.ofNat (0xF0 + r / 262144), UInt8.ofNat (0x80 + r / 4096 % 64), UInt8.ofNat (0x80 + r / 64 % 64), UInt8.ofNat (0x80 + r % 64)] y 3 (by simp)
        simp only [List.getElem_toArray, List.getElem_cons_zero, List.getElem_cons_succ] at g0 g1 g2 g3
        have b0 := u8_nat (0xF0 + r / 262144) (by omega)
        have b1 := u8_nat (0x80 + r / 4096 % 64) (by omega)
        have b2 := u8_nat (0x80 + r / 64 % 64) (by omega)
        have b3 := u8_nat (0x80 + r % 64) (by omega)
        have hs : ((⟨#[UInt8.ofNat (0xF0 + r / 262144), UInt8.ofNat (0x80 + r / 4096 % 64), UInt8.ofNat (0x80 + r / 64 % 64), UInt8.ofNat (0x80 + r % 64)]⟩ : ByteArray) ++ y).size = 4 + y.size := app_size _ _
        have s1 : 0 + 1 < ((⟨#[UInt8.ofNat (0xF0 + r / 262144), UInt8.ofNat (0x80 + r / 4096 % 64), UInt8.ofNat (0x80 + r / 64 % 64), UInt8.ofNat (0x80 + r % 64)]⟩ : ByteArray) ++ y).size := by omega
        have s2 : 0 + 2 < ((⟨#[UInt8.ofNat (0xF0 + r / 262144), UInt8.ofNat (0x80 + r / 4096 % 64), UInt8.ofNat (0x80 + r / 64 % 64), UInt8.ofNat (0x80 + r % 64)]⟩ : ByteArray) ++ y).size := by omega
        have s3 : 0 + 3 < ((⟨#[UInt8.ofNat (0xF0 + r / 262144), UInt8.ofNat (0x80 + r / 4096 % 64), UInt8.ofNat (0x80 + r / 64 % 64), UInt8.ofNat (0x80 + r % 64)]⟩ : ByteArray) ++ y).size := by omega
        have hc : (0xF0 + r / 262144) % 8 * 262144 + (0x80 + r / 4096 % 64) % 64 * 4096 + (0x80 + r / 64 % 64) % 64 * 64 + (0x80 + r % 64) % 64 = r := by omega
        unfold Utf8.decode
        simp only [g0, g1, g2, g3, b0, b1, b2, b3, s1, s2, s3, hc]
        rw [if_neg (by omega), if_neg (by simp; omega), if_neg (by simp; omega), if_pos (by simp; omega), if_pos (by simp [hv]; omega)]

theorem enc_pos (c : Int) : 0 < (Utf8.encode c).size := by
  have he : Utf8.encode c = (if runeT c < 0x80 then ⟨#[UInt8.ofNat (runeT c)]⟩
      else if runeT c < 0x800 then ⟨#[UInt8.ofNat (0xC0 + runeT c / 64), UInt8.ofNat (0x80 + runeT c % 64)]⟩
      else if runeT c < 0x10000 then ⟨#[UInt8.ofNat (0xE0 + runeT c / 4096), UInt8.ofNat (0x80 + runeT c / 64 % 64), UInt8.ofNat (0x80 + runeT c % 64)]⟩
      else ⟨#[UInt8.ofNat (0xF0 + runeT c / 262144), UInt8.ofNat (0x80 + runeT c / 4096 % 64), UInt8.ofNat (0x80 + runeT c / 64 % 64), UInt8.ofNat (0x80 + runeT c % 64)]⟩) := rfl
  rw [he]
  by_cases h1 : runeT c < 0x80
  · rw [if_pos h1]; exact Nat.zero_lt_succ 0
  · rw [if_neg h1]
    by_cases h2 : runeT c < 0x800
    · rw [if_pos h2]; exact Nat.zero_lt_succ 1
    · rw [if_neg h2]
      by_cases h3 : runeT c < 0x10000
      · rw [if_pos h3]; exact Nat.zero_lt_succ 2
      · rw [if_neg h3]; exact Nat.zero_lt_succ 3

/-- A text of bytes below 128 has no bad rune. -/
theorem good_ascii (x : ByteArray) (h : ∀ b ∈ x.data.toList, b.toNat < 128) : Good (runes x) := by
  have key : ∀ (f pos : Nat), Good (runesF x f pos) := by
    intro f
    induction f with
    | zero => intro pos r hr; cases hr
    | succ f ih =>
      intro pos r hr
      simp only [runesF] at hr
      split at hr
      · rename_i hp
        have hb : (x[pos]'hp).toNat < 128 := h _ (by
          have : x[pos]'hp = x.data.toList[pos]'(by simpa using hp) := rfl
          rw [this]; exact List.getElem_mem _)
        rw [decode_ascii x pos hp hb] at hr
        rcases List.mem_cons.1 hr with rfl | hr
        · simp only; omega
        · exact ih _ r hr
      · cases hr
  exact key x.size 0

theorem put_bytes (n : Int) : ∀ b ∈ (putS n).data.toList, b.toNat < 128 := by
  have hd : ∀ u : Nat, ∀ b ∈ Lib.decDigits u, b.toNat < 128 := by
    intro u b hb
    rw [digs_dec] at hb
    obtain ⟨d, hd, rfl⟩ := List.mem_map.1 hb
    have := digs_le u d hd
    rw [u8_nat _ (by omega)]; omega
  intro b hb
  have hb' : b ∈ Lib.itoa n := hb
  unfold Lib.itoa at hb'
  split at hb'
  · rcases List.mem_cons.1 hb' with rfl | hb'
    · decide
    · exact hd _ b hb'
  · exact hd _ b hb'

/-- With another rune among them it is no number's text. -/
theorem num_other (n c : Int) (j : Nat) (hj : j ≤ (putS n).size) (h1 : ¬ (48 ≤ c ∧ c ≤ 57)) (h2 : ¬ (65296 ≤ c ∧ c ≤ 65305)) (h3 : ¬ ((c = 45 ∨ c = 8722) ∧ j = 0)) :
    numR ((putS n).extract 0 j ++ Utf8.encode c ++ (putS n).extract j (putS n).size) = (0, 12) := by
  have hx : Good (runes ((putS n).extract 0 j)) := good_ascii _ fun b hb => by
    rw [Lib.extract_data] at hb
    exact put_bytes n b (List.mem_of_mem_drop (List.mem_of_mem_take hb))
  have hsz : ((putS n).extract 0 j).size = j := by simp; omega
  obtain ⟨r, hr⟩ := runes_cons (Utf8.encode c ++ (putS n).extract j (putS n).size) (by rw [app_size]; have := enc_pos c; omega)
  unfold numR
  rw [ByteArray.append_assoc, runes_append _ _ hx, hr, List.map_cons, numF_bad]
  · rfl
  · rw [dec_enc]
    simp only [shiftR]
    unfold runeT
    split
    · rename_i hv
      have := valid_le c hv
      rw [show ((c.toNat : Nat) : Int) = c by omega]
      by_cases hm : c = 45 ∨ c = 8722
      · right
        refine ⟨by unfold markR; rw [if_pos hm], ?_⟩
        rw [Nat.zero_add, hsz]
        exact fun e => h3 ⟨hm, e⟩
      · left
        unfold markR
        rw [if_neg hm, if_neg h1, if_neg h2]
    · left; rfl

end Go.Proofs.YtbdiphffdmakoaaDoor
