/- Texts of the seat, joined. -/
import Derived.Test.YtcjjckokaiobcaaDoorZz9
import Derived.Test.YtcjjckokaiobcaaDoorZz8
import Derived.Test.YtcjjckokaiobcaaDoorZz6
/- What the document says of leapfrog. -/
namespace Go.Proofs.YtcjjckokaiobcaaDoor
open Go Go.RowKit
set_option linter.unusedSimpArgs false
set_option linter.unusedVariables false
set_option maxRecDepth 100000

theorem callsV_pure {P : Program} {f : Nat} {args : Array Value} {r : Res} (h : PureX P f args r) (ha : wfA noB args = true) (hr : resOK noB r = true) {H : Hp} : CallsV P (.func f) args H r H := by
  intro β w hR
  simp only [renA_plain β ha]
  refine (h w hR.kp.glw).mono ?_
  rintro e w' ⟨rfl, hb⟩
  refine ⟨β, fun _ _ => rfl, ?_, hR.below hb⟩
  cases r with
  | ret v =>
    simp only [Res.out]
    rw [ren_plain β hr, ren_plain _ hr]
  | pan ch => rfl
attribute [local irreducible] shf in
theorem lk_cells {α : Type} {K : Kd α} {A : Nat → Prop} {w0 : World} {β : Num} {H : Hp} {w : World} {L : List α} {k cap : Nat} {T : TypeId} (hR : Rel A w0 β H w) (hk : look H k = some (.cells ⟨L.flatMap K.fl⟩ T (0, 0))) (hl : L.length ≤ cap) (hc : cap ≤ maxLen) : LieK K w (ren β (slw k 0 L.length cap)) L := by
  obtain ⟨h1, h2⟩ := (hR.lies k _ hk).1 rfl
  rw [renA_plain _ (show wfA noB ⟨L.flatMap K.fl⟩ = true from K.plain L)] at h2
  refine .inr ⟨(β k).1, 0, cap, by simp only [ren, renP, shf0 h1, Nat.add_zero, capR_ne (x := β k) (cap_ne hc)], hl, hc, _, _, _, h2, fun j v hj hv => ?_⟩
  rw [cwx_at hj, Nat.sub_zero] at hv
  simpa using hv
theorem run8 : runF Tryd.prog 1000 [] 8 #[] [] [] [(21, rt (.string ⟨⟨[116, 104, 114, 101, 101]⟩⟩)), (19, rt (bb true)), (19, rt (bb false))] [(11, rt (mkA (slw 5000 0 3 capU)), [(5000, KO.own (opsL 0))]), (11, rt (tp [sl0, ii 2]), []), (9, rt (mkA (slw 5001 0 7 capU)), [(5001, KI.own (parN 2))]), (11, rt (mkA (slw 5002 0 7 capU)), [(5002, KO.own turO)]), (17, rt (slw 5003 0 7 capU), [(5003, KO.own (bkL turO)), (5002, KO.own turO)]), (13, rt (tp [ii (-16), ii 17]), [(5002, KO.own turO)])] [] = some (rt (bb true), [], [CallsV Tryd.prog (.func 11) #[ii 0] [] (rt (mkA (slw 5000 0 3 capU))) [(5000, KO.own (opsL 0))], CallsV Tryd.prog (.func 11) #[ii 5] [] (rt (tp [sl0, ii 2])) [], CallsV Tryd.prog (.func 9) #[ii 2] [] (rt (mkA (slw 5001 0 7 capU))) [(5001, KI.own (parN 2))], CallsV Tryd.prog (.func 11) #[ii 4] [] (rt (mkA (slw 5002 0 7 capU))) [(5002, KO.own turO)], CallsV Tryd.prog (.func 17) #[slw 5002 0 7 capU] [(5002, KO.own turO)] (rt (slw 5003 0 7 capU)) [(5003, KO.own (bkL turO)), (5002, KO.own turO)], CallsV Tryd.prog (.func 13) #[uu 3, slw 5002 0 7 capU] [(5002, KO.own turO)] (rt (tp [ii (-16), ii 17])) [(5002, KO.own turO)], PureX Tryd.prog 21 #[ii 1] (rt (.string ⟨⟨[116, 104, 114, 101, 101]⟩⟩)), PureX Tryd.prog 19 #[ov (1, 1000000, 2000000)] (rt (bb true)), PureX Tryd.prog 19 #[ov (0, 0, 0)] (rt (bb false))]) := by kernel_rfl
theorem new_c {α3 : Type} {K3 : Kd α3} {f : Nat} {args : Array Value} {mk : Value → Value} {R : List α3} (h : NewA KI Tryd.prog f (fun _ => args) [] K3 mk R) (q : Bool) (ha : ∀ β, renA β args = args) (hm : ∀ β s, ren β (mk s) = mk (ren β s)) (k : Nat) : CallsV Tryd.prog (.func f) args [] (rt (mk (slw k 0 R.length capU))) [(k, K3.nob q R)] :=
  newA_calls (s := sl0) h q (fun β _ => ha β) hm rfl (fun _ _ _ => lk_nil)
theorem tot_tur : totV 3 turO = (-16, 17) := by kernel_rfl
theorem wakes_c : PureX Tryd.prog 8 #[] (rt (bb true)) := by
  refine runF_pure mix run8 ⟨?_, ?_, ?_, ?_, ?_, ?_, name_1, (right_v (1, 1000000, 2000000)).is rfl, (right_v (0, 0, 0)).is rfl, trivial⟩ rfl rfl
  · exact new_c (ops_n (m := 0) rfl) true (fun _ => rfl) mkA_ren 5000
  · exact callsV_pure (ops_bad 5 rfl) rfl rfl
  · exact new_c (parts_n (m := 2) rfl) true (fun _ => rfl) mkA_ren 5001
  · exact new_c ops_4 true (fun _ => rfl) mkA_ren 5002
  · have h := (back_s turO (by decide)).2 (by decide)
    exact newA_calls (s := slw 5002 0 7 capU) h true (fun _ _ => rfl) (fun _ _ => rfl) rfl (fun _ _ hR => lk_own (K := KO) (L := turO) hR rfl)
  · have h := tot_s 3 turO
    rw [tot_tur] at h
    exact semA_calls (s := slw 5002 0 7 capU) h (fun _ _ => rfl) rfl (fun _ _ hR => lk_own (K := KO) (L := turO) hR rfl)

end Go.Proofs.YtcjjckokaiobcaaDoor
