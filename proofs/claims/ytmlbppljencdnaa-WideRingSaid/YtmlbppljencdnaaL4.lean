/- WideRing answers true at every input. -/
import Derived.Test.YtmlbppljencdnaaL4b
namespace Go.Proofs.Ytmlbppljencdnaa
open Go Go.RowKit Go.Shelf


theorem ring_walk (a b c : Nat → Nat) (ha : Wds a) (hb : Wds b) (hc : Wds c) (w : World) :
    Calls Try.prog 4 #[.agg #[.int .u64 (a 0), .int .u64 (a 1), .int .u64 (a 2), .int .u64 (a 3)], .agg #[.int .u64 (b 0), .int .u64 (b 1), .int .u64 (b 2), .int .u64 (b 3)], .agg #[.int .u64 (c 0), .int .u64 (c 1), .int .u64 (c 2), .int .u64 (c 3)]] w fun e w' => e = .returned (.bool true) ∧ Below w.heap.size w w' := by
  have vab := addR_words a b
  have vba := addR_words b a
  have vbc := addR_words b c
  have vp := mulR_words a b ha hb
  have vq := mulR_words b a hb ha
  have vb1 := mulR_words b c hb hc
  have vac := mulR_words a c ha hc
  have v1 := ofR_words 1
  have vm := ofR_words (-1)
  have ca := cong_self ha
  have cb := cong_self hb
  have cc := cong_self hc
  have c1 : (val (ofR 1) : Int) = 1 % 115792089237316195423570985008687907853269984665640564039457584007913129639936 := by have := cong_self v1; rwa [ofR_sval (by omega) (by omega)] at this
  have cm : (val (ofR (-1)) : Int) = (-1) % 115792089237316195423570985008687907853269984665640564039457584007913129639936 := by have := cong_self vm; rwa [ofR_sval (by omega) (by omega)] at this
  have c0 : (val Zr : Int) = 0 % 115792089237316195423570985008687907853269984665640564039457584007913129639936 := rfl
  have ia := sval_in ha
  have o1 : mulO a (ofR 1) = false := by rw [mulO_z ha v1, ofR_sval (by omega) (by omega), Int.mul_one]; exact over_of ia.1 ia.2
  have o0 : mulO a Zr = false := by rw [mulO_z ha zr_words, zr_sval, Int.mul_zero]; exact over_of (by omega) (by omega)
  refine ring_w a b c _ _ _ _ _ _ _ _ _ _ _ _ _ _ (mulR a (ofR 1)) (mulR a (ofR (-1))) _ (mulR a Zr) (ofR 1) (ofR (-1)) _ _ _ _ _ _ _ _ _ _ _ _ _ _ _ _ ha hb hc vab vbc vp vb1 vac rfl rfl rfl rfl rfl rfl rfl rfl rfl rfl rfl rfl rfl rfl rfl rfl rfl rfl rfl rfl rfl rfl rfl rfl rfl rfl rfl rfl rfl rfl
    (fun W => of_c (by omega) (by omega) rfl W) (fun W => mul_c ha v1 rfl o1 W) (fun W => of_c (by omega) (by omega) rfl W) (fun W => mul_c ha vm rfl rfl W) (fun W => mul_c ha zr_words rfl o0 W)
    ?_ ?_ ?_ ?_ ?_ ?_ ?_ ?_ ?_ w
  · exact cong_eq vab vba (cong_add ha hb ca cb) (cong_add hb ha cb ca) (Int.add_comm _ _)
  · exact cong_eq (addR_words _ _) (addR_words _ _) (cong_add vab hc (cong_add ha hb ca cb) cc) (cong_add ha vbc ca (cong_add hb hc cb cc)) (Int.add_assoc _ _ _)
  · exact cong_eq (subR_words _ _) ha (cong_sub vab hb (cong_add ha hb ca cb) cb) ca (by omega)
  · exact cong_eq vp vq (cong_mul ha hb ca cb) (cong_mul hb ha cb ca) (Int.mul_comm _ _)
  · exact cong_eq (mulR_words _ _ vp hc) (mulR_words _ _ ha vb1) (cong_mul vp hc (cong_mul ha hb ca cb) cc) (cong_mul ha vb1 ca (cong_mul hb hc cb cc)) (Int.mul_assoc _ _ _)
  · exact cong_eq (mulR_words _ _ ha vbc) (addR_words _ _) (cong_mul ha vbc ca (cong_add hb hc cb cc)) (cong_add vp vac (cong_mul ha hb ca cb) (cong_mul ha hc ca cc)) (Int.mul_add _ _ _)
  · exact cong_eq (mulR_words _ _ ha v1) ha (cong_mul ha v1 ca c1) ca (Int.mul_one _)
  · exact cong_eq (mulR_words _ _ ha vm) (negR_words _) (cong_mul ha vm ca cm) (cong_neg ha ca) (by omega)
  · exact cong_eq (mulR_words _ _ ha zr_words) zr_words (cong_mul ha zr_words ca c0) c0 (Int.mul_zero _)

end Go.Proofs.Ytmlbppljencdnaa
