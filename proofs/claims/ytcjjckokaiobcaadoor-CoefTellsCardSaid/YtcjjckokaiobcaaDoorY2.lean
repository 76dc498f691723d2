/- CoefTells. -/
import Derived.Test.YtcjjckokaiobcaaDoorY1
namespace Go.Proofs.YtcjjckokaiobcaaDoor
open Go Go.RowKit
set_option linter.unusedSimpArgs false
set_option linter.unusedVariables false
set_option maxRecDepth 100000

theorem s_same (s : ByteArray) : (s.toList == s.toList) = true := by simp
theorem tot_nil (kd : Int) : CallsV Tryd.prog (.func 13) #[uu kd, sl0] [] (rt (tp [ii (totV kd []).1, ii (totV kd []).2])) [] :=
  semA_calls (s := sl0) (tot_s kd []) (fun _ _ => rfl) rfl (fun _ _ _ => lk_nil)
theorem dtot_nil (kd : Int) : CallsV Tryd.prog (.func 14) #[uu kd, sl0] [] (rt (tp [ii (totV kd []).1, ii (totV kd []).2])) [] :=
  semA_calls (s := sl0) (dtot_s kd []) (fun _ _ => rfl) rfl (fun _ _ _ => lk_nil)
theorem back_nil : CallsV Tryd.prog (.func 17) #[sl0] [] (rt sl0) [] := callsV_pure (runF_pure mix t17_nil trivial rfl rfl) rfl rfl
theorem dback_nil : CallsV Tryd.prog (.func 18) #[sl0] [] (rt sl0) [] := callsV_pure (runF_pure mix t18_nil trivial rfl rfl) rfl rfl
theorem same_nil : CallsV Tryd.prog (.func 16) #[sl0, sl0] [] (rt (bb true)) [] := (semB_calls (s := sl0) (s' := sl0) (dsame_s [] []) (fun _ _ _ => rfl) rfl (fun _ _ _ => ⟨lk_nil, lk_nil⟩)).to rfl rfl
theorem ints_nil : CallsV Tryd.prog (.func 15) #[sl0, sl0] [] (rt (bb true)) [] := (semB_calls (s := sl0) (s' := sl0) (ints_s [] []) (fun _ _ _ => rfl) rfl (fun _ _ _ => ⟨lk_nil, lk_nil⟩)).to rfl rfl
section
variable {off cap : Nat} {L : List Op3} (hl : L.length ≤ cap) (hc : cap ≤ maxLen)
include hl hc
theorem tot_w (kd : Int) : CallsV Tryd.prog (.func 13) #[uu kd, slw 1 off L.length cap] [(1, KO.win off L)] (rt (tp [ii (totV kd L).1, ii (totV kd L).2])) [(1, KO.win off L)] :=
  semA_calls (s := slw 1 off L.length cap) (tot_s kd L) (fun _ _ => rfl) rfl (fun _ _ hR => lk_win (K := KO) (L := L) hR (by simp [look]) hl hc)
theorem dtot_w (kd : Int) : CallsV Tryd.prog (.func 14) #[uu kd, slw 1 off L.length cap] [(1, KO.win off L)] (rt (tp [ii (totV kd L).1, ii (totV kd L).2])) [(1, KO.win off L)] :=
  semA_calls (s := slw 1 off L.length cap) (dtot_s kd L) (fun _ _ => rfl) rfl (fun _ _ hR => lk_win (K := KO) (L := L) hR (by simp [look]) hl hc)
theorem back_w (hL : L.length ≤ 1000) (hn : bkL L ≠ []) : CallsV Tryd.prog (.func 17) #[slw 1 off L.length cap] [(1, KO.win off L)] (rt (slw 5005 0 L.length capU)) [(5005, KO.opq (bkL L)), (1, KO.win off L)] := by
  have := newA_calls (H := [(1, KO.win off L)]) (k := 5005) (s := slw 1 off L.length cap) ((back_s L hL).2 hn) false (fun _ _ => rfl) (fun _ _ => rfl) (by simp [domB, look]) (fun _ _ hR => lk_win (K := KO) (L := L) hR (by simp [look]) hl hc)
  rw [bk_len] at this
  exact this
theorem dback_w (hL : L.length ≤ 1000) (hn : bkL L ≠ []) : CallsV Tryd.prog (.func 18) #[slw 1 off L.length cap] [(1, KO.win off L)] (rt (slw 5006 0 L.length capU)) [(5006, KO.opq (bkL L)), (1, KO.win off L)] := by
  have := newA_calls (H := [(1, KO.win off L)]) (k := 5006) (s := slw 1 off L.length cap) ((dback_s L hL).2 hn) false (fun _ _ => rfl) (fun _ _ => rfl) (by simp [domB, look]) (fun _ _ hR => lk_win (K := KO) (L := L) hR (by simp [look]) hl hc)
  rw [bk_len] at this
  exact this
end
theorem back_e {off cap : Nat} (hl : 0 ≤ cap) (hc : cap ≤ maxLen) : CallsV Tryd.prog (.func 17) #[slw 1 off 0 cap] [(1, KO.win off [])] (rt sl0) [(1, KO.win off [])] := semA_calls (s := slw 1 off 0 cap) ((back_s [] (by decide)).1 rfl) (fun _ _ => rfl) rfl (fun _ _ hR => lk_win (K := KO) (L := []) hR rfl hl hc)
theorem dback_e {off cap : Nat} (hl : 0 ≤ cap) (hc : cap ≤ maxLen) : CallsV Tryd.prog (.func 18) #[slw 1 off 0 cap] [(1, KO.win off [])] (rt sl0) [(1, KO.win off [])] := semA_calls (s := slw 1 off 0 cap) ((dback_s [] (by decide)).1 rfl) (fun _ _ => rfl) rfl (fun _ _ hR => lk_win (K := KO) (L := []) hR rfl hl hc)
theorem same_w (k k' : Nat) (O : List Op3) (h1 : look [(k', KO.opq O), (k, KO.opq O)] k = some (KO.opq O)) (h2 : look [(k', KO.opq O), (k, KO.opq O)] k' = some (KO.opq O)) : CallsV Tryd.prog (.func 16) #[slw k 0 O.length capU, slw k' 0 O.length capU] [(k', KO.opq O), (k, KO.opq O)] (rt (bb true)) [(k', KO.opq O), (k, KO.opq O)] := by
  have := semB_calls (H := [(k', KO.opq O), (k, KO.opq O)]) (s := slw k 0 O.length capU) (s' := slw k' 0 O.length capU) (dsame_s O O) (fun _ _ _ => rfl) rfl (fun _ _ hR => ⟨lk_opq (K := KO) (L := O) hR h1, lk_opq (K := KO) (L := O) hR h2⟩)
  rw [show decide (O = O) = true from decide_eq_true rfl] at this
  exact this
theorem ints_w (P : List Int) : CallsV Tryd.prog (.func 15) #[slw 5001 0 P.length capU, slw 5002 0 P.length capU] [(5002, KI.opq P), (5001, KI.opq P)] (rt (bb true)) [(5002, KI.opq P), (5001, KI.opq P)] := by
  have := semB_calls (H := [(5002, KI.opq P), (5001, KI.opq P)]) (s := slw 5001 0 P.length capU) (s' := slw 5002 0 P.length capU) (ints_s P P) (fun _ _ _ => rfl) rfl (fun _ _ hR => ⟨lk_opq (K := KI) (L := P) hR (by simp [look]), lk_opq (K := KI) (L := P) hR (by simp [look])⟩)
  rw [show decide (P = P) = true from decide_eq_true rfl] at this
  exact this
theorem ints_b : CallsV Tryd.prog (.func 15) #[sl0, slw 5002 0 0 capU] [(5002, KI.opq [])] (rt (bb true)) [(5002, KI.opq [])] :=
  (semB_calls (H := [(5002, KI.opq [])]) (s := sl0) (s' := slw 5002 0 0 capU) (ints_s [] []) (fun _ _ _ => rfl) rfl (fun _ _ hR => ⟨lk_nil, lk_opq (K := KI) (L := []) hR (by simp [look])⟩)).to rfl rfl
theorem tellsA (a kd : Int) (o : Op3) (L : List Op3) (P : List Int) (O : List Op3) (s : ByteArray) (c9 : CallsV Tryd.prog (.func 9) #[ii a] [] (rt (mkA (slw 5001 0 P.length capU))) [(5001, KI.opq P)]) (c10 : CallsV Tryd.prog (.func 10) #[ii a] [] (rt (mkA (slw 5002 0 P.length capU))) [(5002, KI.opq P)]) (c11 : CallsV Tryd.prog (.func 11) #[ii a] [] (rt (mkA (slw 5003 0 O.length capU))) [(5003, KO.opq O)]) (c12 : CallsV Tryd.prog (.func 12) #[ii a] [] (rt (mkA (slw 5004 0 O.length capU))) [(5004, KO.opq O)]) (n1 : PureX Tryd.prog 21 #[ii a] (rt (.string s))) (n2 : PureX Tryd.prog 22 #[ii a] (rt (.string s))) : SemA KO Tryd.prog 3 (fun s => #[ii a, s, ov o, uu kd]) L (bb true) := by
  refine semA_law (fun _ _ => rfl) rfl (fun h => ?_) (fun off cap hl hc => ?_)
  · subst h
    exact runF_pure mix (t3_AN (a := a) (o := o) (r := rightB o) (s := s) (kd := kd) (pn := P.length) (PA := P.flatMap fl1) (on := O.length) (OA := O.flatMap flO) (tn := (totV kd []).1) (td := (totV kd []).2)) ⟨c9, c10, c11, c12, tot_nil kd, dtot_nil kd, ints_w P, same_w 5003 5004 O (by simp [look]) (by simp [look]), by simp, by simp, back_nil, dback_nil, same_nil, right_v o, dright_v o, by simp, n1, n2, s_same s, wakes_c, trivial⟩ rfl rfl
  by_cases h60 : 60 < L.length
  · exact ⟨_, runF_calls mix (t3_G (a := a) (o := o) (kd := kd) (off := off) (n' := L.length) (cap := cap) (c := cwx flO off L)) ⟨decide_eq_true (by omega), wakes_c, trivial⟩ rfl rfl⟩
  by_cases hne : L = []
  · subst hne
    exact ⟨_, runF_calls mix (t3_AE (off := off) (cap := cap) (c := cwx flO off []) (a := a) (o := o) (r := rightB o) (s := s) (kd := kd) (pn := P.length) (PA := P.flatMap fl1) (on := O.length) (OA := O.flatMap flO) (tn := (totV kd []).1) (td := (totV kd []).2)) ⟨c9, c10, c11, c12, tot_w (L := []) hl hc kd, dtot_w (L := []) hl hc kd, ints_w P, same_w 5003 5004 O (by simp [look]) (by simp [look]), by simp, by simp, back_e hl hc, dback_e hl hc, same_nil, right_v o, dright_v o, by simp, n1, n2, s_same s, wakes_c, trivial⟩ rfl rfl⟩
  have hL : L.length ≤ 1000 := by omega
  have hbn : bkL L ≠ [] := fun e => hne (bk_nil e)
  have hsm := same_w 5005 5006 (bkL L) (by simp [look]) (by simp [look])
  rw [bk_len] at hsm
  exact ⟨_, runF_calls mix (t3_AW (off := off) (n' := L.length) (cap := cap) (c := cwx flO off L) (BA := (bkL L).flatMap flO) (a := a) (o := o) (r := rightB o) (s := s) (kd := kd) (pn := P.length) (PA := P.flatMap fl1) (on := O.length) (OA := O.flatMap flO) (tn := (totV kd L).1) (td := (totV kd L).2)) ⟨decide_eq_false (by omega), c9, c10, c11, c12, tot_w hl hc kd, dtot_w hl hc kd, ints_w P, same_w 5003 5004 O (by simp [look]) (by simp [look]), by simp, by simp, back_w hl hc hL hbn, dback_w hl hc hL hbn, hsm, right_v o, dright_v o, by simp, n1, n2, s_same s, wakes_c, trivial⟩ rfl rfl⟩
theorem tellsB (a kd : Int) (o : Op3) (L : List Op3) (O : List Op3) (s : ByteArray) (c9 : CallsV Tryd.prog (.func 9) #[ii a] [] (rt (mkA sl0)) []) (c10 : CallsV Tryd.prog (.func 10) #[ii a] [] (rt (mkA (slw 5002 0 0 capU))) [(5002, KI.opq [])]) (c11 : CallsV Tryd.prog (.func 11) #[ii a] [] (rt (mkA (slw 5003 0 O.length capU))) [(5003, KO.opq O)]) (c12 : CallsV Tryd.prog (.func 12) #[ii a] [] (rt (mkA (slw 5004 0 O.length capU))) [(5004, KO.opq O)]) (n1 : PureX Tryd.prog 21 #[ii a] (rt (.string s))) (n2 : PureX Tryd.prog 22 #[ii a] (rt (.string s))) : SemA KO Tryd.prog 3 (fun s => #[ii a, s, ov o, uu kd]) L (bb true) := by
  refine semA_law (fun _ _ => rfl) rfl (fun h => ?_) (fun off cap hl hc => ?_)
  · subst h
    exact runF_pure mix (t3_BN (a := a) (o := o) (r := rightB o) (s := s) (kd := kd) (PA := []) (on := O.length) (OA := O.flatMap flO) (tn := (totV kd []).1) (td := (totV kd []).2)) ⟨c9, c10, c11, c12, tot_nil kd, dtot_nil kd, ints_b, same_w 5003 5004 O (by simp [look]) (by simp [look]), by simp, by simp, back_nil, dback_nil, same_nil, right_v o, dright_v o, by simp, n1, n2, s_same s, wakes_c, trivial⟩ rfl rfl
  by_cases h60 : 60 < L.length
  · exact ⟨_, runF_calls mix (t3_G (a := a) (o := o) (kd := kd) (off := off) (n' := L.length) (cap := cap) (c := cwx flO off L)) ⟨decide_eq_true (by omega), wakes_c, trivial⟩ rfl rfl⟩
  by_cases hne : L = []
  · subst hne
    exact ⟨_, runF_calls mix (t3_BE (off := off) (cap := cap) (c := cwx flO off []) (a := a) (o := o) (r := rightB o) (s := s) (kd := kd) (PA := []) (on := O.length) (OA := O.flatMap flO) (tn := (totV kd []).1) (td := (totV kd []).2)) ⟨c9, c10, c11, c12, tot_w (L := []) hl hc kd, dtot_w (L := []) hl hc kd, ints_b, same_w 5003 5004 O (by simp [look]) (by simp [look]), by simp, by simp, back_e hl hc, dback_e hl hc, same_nil, right_v o, dright_v o, by simp, n1, n2, s_same s, wakes_c, trivial⟩ rfl rfl⟩
  have hL : L.length ≤ 1000 := by omega
  have hbn : bkL L ≠ [] := fun e => hne (bk_nil e)
  have hsm := same_w 5005 5006 (bkL L) (by simp [look]) (by simp [look])
  rw [bk_len] at hsm
  exact ⟨_, runF_calls mix (t3_BW (off := off) (n' := L.length) (cap := cap) (c := cwx flO off L) (BA := (bkL L).flatMap flO) (a := a) (o := o) (r := rightB o) (s := s) (kd := kd) (PA := []) (on := O.length) (OA := O.flatMap flO) (tn := (totV kd L).1) (td := (totV kd L).2)) ⟨decide_eq_false (by omega), c9, c10, c11, c12, tot_w hl hc kd, dtot_w hl hc kd, ints_b, same_w 5003 5004 O (by simp [look]) (by simp [look]), by simp, by simp, back_w hl hc hL hbn, dback_w hl hc hL hbn, hsm, right_v o, dright_v o, by simp, n1, n2, s_same s, wakes_c, trivial⟩ rfl rfl⟩
theorem tellsC (a kd : Int) (o : Op3) (L : List Op3) (s : ByteArray) (c9 : CallsV Tryd.prog (.func 9) #[ii a] [] (rt (tp [sl0, ii 2])) []) (c10 : CallsV Tryd.prog (.func 10) #[ii a] [] (rt (tp [sl0, ii 2])) []) (c11 : CallsV Tryd.prog (.func 11) #[ii a] [] (rt (tp [sl0, ii 2])) []) (c12 : CallsV Tryd.prog (.func 12) #[ii a] [] (rt (tp [sl0, ii 2])) []) (n1 : PureX Tryd.prog 21 #[ii a] (rt (.string s))) (n2 : PureX Tryd.prog 22 #[ii a] (rt (.string s))) : SemA KO Tryd.prog 3 (fun s => #[ii a, s, ov o, uu kd]) L (bb true) := by
  refine semA_law (fun _ _ => rfl) rfl (fun h => ?_) (fun off cap hl hc => ?_)
  · subst h
    exact runF_pure mix (t3_CN (a := a) (o := o) (r := rightB o) (s := s) (kd := kd) (tn := (totV kd []).1) (td := (totV kd []).2)) ⟨c9, c10, c11, c12, tot_nil kd, dtot_nil kd, ints_nil, same_nil, by simp, by simp, back_nil, dback_nil, same_nil, right_v o, dright_v o, by simp, n1, n2, s_same s, wakes_c, trivial⟩ rfl rfl
  by_cases h60 : 60 < L.length
  · exact ⟨_, runF_calls mix (t3_G (a := a) (o := o) (kd := kd) (off := off) (n' := L.length) (cap := cap) (c := cwx flO off L)) ⟨decide_eq_true (by omega), wakes_c, trivial⟩ rfl rfl⟩
  by_cases hne : L = []
  · subst hne
    exact ⟨_, runF_calls mix (t3_CE (off := off) (cap := cap) (c := cwx flO off []) (a := a) (o := o) (r := rightB o) (s := s) (kd := kd) (tn := (totV kd []).1) (td := (totV kd []).2)) ⟨c9, c10, c11, c12, tot_w (L := []) hl hc kd, dtot_w (L := []) hl hc kd, ints_nil, same_nil, by simp, by simp, back_e hl hc, dback_e hl hc, same_nil, right_v o, dright_v o, by simp, n1, n2, s_same s, wakes_c, trivial⟩ rfl rfl⟩
  have hL : L.length ≤ 1000 := by omega
  have hbn : bkL L ≠ [] := fun e => hne (bk_nil e)
  have hsm := same_w 5005 5006 (bkL L) (by simp [look]) (by simp [look])
  rw [bk_len] at hsm
  exact ⟨_, runF_calls mix (t3_CW (off := off) (n' := L.length) (cap := cap) (c := cwx flO off L) (BA := (bkL L).flatMap flO) (a := a) (o := o) (r := rightB o) (s := s) (kd := kd) (tn := (totV kd L).1) (td := (totV kd L).2)) ⟨decide_eq_false (by omega), c9, c10, c11, c12, tot_w hl hc kd, dtot_w hl hc kd, ints_nil, same_nil, by simp, by simp, back_w hl hc hL hbn, dback_w hl hc hL hbn, hsm, right_v o, dright_v o, by simp, n1, n2, s_same s, wakes_c, trivial⟩ rfl rfl⟩
theorem tells_ok (a kd : Int) (o : Op3) (L : List Op3) : SemA KO Tryd.prog 3 (fun s => #[ii a, s, ov o, uu kd]) L (bb true) := by
  cases h : (decide (0 ≤ a) && decide (a ≤ 4))
  · exact tellsC a kd o L ⟨⟨[]⟩⟩ (callsV_pure (parts_bad a h) rfl rfl) (callsV_pure (dpb a h) rfl rfl) (callsV_pure (ops_bad a h) rfl rfl) (callsV_pure (dob a h) rfl rfl) (name_no a h) (dname_no a h)
  · simp only [Bool.and_eq_true, decide_eq_true_eq] at h
    have : a = 0 ∨ a = 1 ∨ a = 2 ∨ a = 3 ∨ a = 4 := by omega
    rcases this with rfl | rfl | rfl | rfl | rfl
    · exact tellsA 0 kd o L (parN 0) (opsL 0) ⟨⟨[108, 101, 97, 112, 102, 114, 111, 103]⟩⟩ (new_c (parts_n (m := 0) (L := parN 0) rfl) false (fun _ => rfl) mkA_ren 5001) (new_c (R := parN 0) dparts_0 false (fun _ => rfl) mkA_ren 5002) (new_c (R := opsL 0) (ops_n (m := 0) (L := parN 0) rfl) false (fun _ => rfl) mkA_ren 5003) (new_c (R := opsL 0) dops_0 false (fun _ => rfl) mkA_ren 5004) name_0 dname_0
    · exact tellsA 1 kd o L (parN 1) (opsL 1) ⟨⟨[116, 104, 114, 101, 101]⟩⟩ (new_c (parts_n (m := 1) (L := parN 1) rfl) false (fun _ => rfl) mkA_ren 5001) (new_c (R := parN 1) dparts_1 false (fun _ => rfl) mkA_ren 5002) (new_c (R := opsL 1) (ops_n (m := 1) (L := parN 1) rfl) false (fun _ => rfl) mkA_ren 5003) (new_c (R := opsL 1) dops_1 false (fun _ => rfl) mkA_ren 5004) name_1 dname_1
    · exact tellsA 2 kd o L (parN 2) (opsL 2) ⟨⟨[115, 101, 118, 101, 110]⟩⟩ (new_c (parts_n (m := 2) (L := parN 2) rfl) false (fun _ => rfl) mkA_ren 5001) (new_c (R := parN 2) dparts_2 false (fun _ => rfl) mkA_ren 5002) (new_c (R := opsL 2) (ops_n (m := 2) (L := parN 2) rfl) false (fun _ => rfl) mkA_ren 5003) (new_c (R := opsL 2) dops_2 false (fun _ => rfl) mkA_ren 5004) name_2 dname_2
    · exact tellsA 3 kd o L (parN 3) (opsL 3) ⟨⟨[102, 105, 102, 116, 101, 101, 110]⟩⟩ (new_c (parts_n (m := 3) (L := parN 3) rfl) false (fun _ => rfl) mkA_ren 5001) (new_c (R := parN 3) dparts_3 false (fun _ => rfl) mkA_ren 5002) (new_c (R := opsL 3) (ops_n (m := 3) (L := parN 3) rfl) false (fun _ => rfl) mkA_ren 5003) (new_c (R := opsL 3) dops_3 false (fun _ => rfl) mkA_ren 5004) name_3 dname_3
    · exact tellsB 4 kd o L (opsL 4) ⟨⟨[116, 117, 114, 110, 105, 110, 103]⟩⟩ (callsV_pure parts_4 rfl rfl) (new_c (R := []) dparts_4 false (fun _ => rfl) mkA_ren 5002) (new_c (R := opsL 4) ops_4 false (fun _ => rfl) mkA_ren 5003) (new_c (R := opsL 4) dops_4 false (fun _ => rfl) mkA_ren 5004) name_4 dname_4

end Go.Proofs.YtcjjckokaiobcaaDoor
