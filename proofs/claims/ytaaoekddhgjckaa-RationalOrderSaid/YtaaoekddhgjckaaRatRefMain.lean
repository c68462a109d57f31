/- Contracts of the specification's exported functions of layer 7. -/
import Derived.Test.YtaaoekddhgjckaaRatReduced
namespace Go.Proofs.Ytaaoekddhgjckaa
open Go.ChangeShapes Go.WideShapes Go.ChangeAt Go.RowKit

set_option maxHeartbeats 1000000 in
theorem radd_any (an ad bn bd : Int) (w : World) :
    Calls Try.prog 16 #[.agg #[.int .i64 an, .int .i64 ad], .agg #[.int .i64 bn, .int .i64 bd]] w fun e w' => e = .returned (.tuple #[.agg #[.int .i64 (addN an ad bn bd), .int .i64 (addD an ad bn bd)], .int .i64 (addE an ad bn bd)]) ∧ Below w.heap.size w w' := by
  by_cases hv : Valid an ad ∧ Valid bn bd
  · have va : validB an ad = true := decide_eq_true hv.1
    have vb : validB bn bd = true := decide_eq_true hv.2
    have P := addbd hv.1 hv.2
    have hN : addN an ad bn bd = rdN (an * bd + bn * ad) (ad * bd) := by
      unfold addN rdN addGood; simp only [hv.1, hv.2, true_and]
    have hD : addD an ad bn bd = rdD (an * bd + bn * ad) (ad * bd) := by
      unfold addD rdD addGood; simp only [hv.1, hv.2, true_and]
    have hE : addE an ad bn bd = if Fits (an * bd + bn * ad) (ad * bd) then 0 else 70 := by
      unfold addE addGood; simp only [hv.1, hv.2, true_and]
    rw [hN, hD, hE]
    obtain ⟨⟨a1, a2, a3, a4, _⟩, b1, b2, b3, b4, _⟩ := hv
    have m1 := pr_bd a3 a4 b1 b2
    have m2 := pr_bd b3 b4 a1 a2
    have m3 := pr_bd (by omega : -2147483647 ≤ ad) a2 b1 b2
    have m4 := pr_bd2 a3 a4 b3 b4
    have PP := Lib.hid P; clear P hN hD hE
    by_cases hf : Fits (an * bd + bn * ad) (ad * bd)
    · have ef : fitB (an * bd + bn * ad) (ad * bd) = true := decide_eq_true hf
      rw [if_pos hf]; clear hf
      go_enter Try.func16, Try.ntmps16
      go_wp2_with fail
      refine (rvalid_any _ _ _).mono ?_; rintro e1 w1 ⟨rfl, hb1⟩; rw [va]
      have k0 := blk_below (blk_new _ _) hb1 (by simp)
      have ka := blk_below (blk_alloc (blk_alloc (blk_new w _) _) _) hb1 (by simp; omega)
      have kb := blk_below (blk_alloc (blk_new _ _) _) hb1 (by simp)
      rw [World.size_alloc, World.size_alloc] at k0
      rw [World.size_alloc] at kb
      have z1 := hb1.size
      simp at z1
      have B := below_after (by go_grown : Below w.heap.size w (((w.alloc (.cells #[.int .i64 an, .int .i64 ad] 23)).alloc (.cells #[.int .i64 bn, .int .i64 bd] 23)).alloc (.cells #[.int .i64 0, .int .i64 0] 23))) hb1 (by simp; omega)
      clear hb1
      have kb0 := blk_cell kb 0; have kb1 := blk_cell kb 1
      simp at kb0 kb1
      have K0 := Lib.hid k0; have KA := Lib.hid ka; have KB := Lib.hid kb; clear k0 ka kb
      go_wp2_with fail
      refine (rvalid_any _ _ _).mono ?_; rintro e2 w2 ⟨rfl, hb2⟩; rw [vb]
      have z2 := hb2.size
      replace K0 := Lib.hid (blk_below K0.out hb2 (by omega))
      replace KA := Lib.hid (blk_below KA.out hb2 (by omega))
      replace KB := Lib.hid (blk_below KB.out hb2 (by omega))
      replace B := below_after B hb2 (by omega)
      clear hb2 kb0 kb1
      have ka0 := blk_cell KA.out 0; have ka1 := blk_cell KA.out 1; have kb0 := blk_cell KB.out 0; have kb1 := blk_cell KB.out 1
      simp at ka0 ka1 kb0 kb1
      go_wp2_with fail
      refine (reduced_any _ _ _ PP.out.1 PP.out.2.1 PP.out.2.2.1 PP.out.2.2.2.1 PP.out.2.2.2.2).mono ?_; rintro e3 w3 ⟨rfl, hb3⟩
      have z3 := hb3.size
      have k5 := blk_below K0.out hb3 (by omega)
      replace B := below_after B hb3 (by omega)
      clear hb3
      have d0 := blk_cell k5 0; have d1 := blk_cell k5 1; have f0 := blk_free k5 0; have f1 := blk_free k5 1
      simp at d0 d1
      have hlt : w.heap.size + 1 + 1 < w3.heap.size := by omega
      clear k5
      rw [ef]
      go_wp2
      exact bodyPost_ret (v := .tuple #[.agg #[.int .i64 (rdN (an * bd + bn * ad) (ad * bd)), .int .i64 (rdD (an * bd + bn * ad) (ad * bd))], .int .i64 0]) (by simp [results, Try.results16, go_sem, d0, d1, hlt]) rfl ⟨rfl, by go_grown⟩
    · have ef : fitB (an * bd + bn * ad) (ad * bd) = false := decide_eq_false hf
      have r1 : rdN (an * bd + bn * ad) (ad * bd) = 0 := if_neg hf
      have r2 : rdD (an * bd + bn * ad) (ad * bd) = 0 := if_neg hf
      rw [if_neg hf]; clear hf
      have R1 := Lib.hid r1; have R2 := Lib.hid r2; clear r1 r2
      go_enter Try.func16, Try.ntmps16
      go_wp2_with fail
      refine (rvalid_any _ _ _).mono ?_; rintro e1 w1 ⟨rfl, hb1⟩; rw [va]
      have k0 := blk_below (blk_new _ _) hb1 (by simp)
      have ka := blk_below (blk_alloc (blk_alloc (blk_new w _) _) _) hb1 (by simp; omega)
      have kb := blk_below (blk_alloc (blk_new _ _) _) hb1 (by simp)
      rw [World.size_alloc, World.size_alloc] at k0
      rw [World.size_alloc] at kb
      have z1 := hb1.size
      simp at z1
      have B := below_after (by go_grown : Below w.heap.size w (((w.alloc (.cells #[.int .i64 an, .int .i64 ad] 23)).alloc (.cells #[.int .i64 bn, .int .i64 bd] 23)).alloc (.cells #[.int .i64 0, .int .i64 0] 23))) hb1 (by simp; omega)
      clear hb1
      have kb0 := blk_cell kb 0; have kb1 := blk_cell kb 1
      simp at kb0 kb1
      have K0 := Lib.hid k0; have KA := Lib.hid ka; have KB := Lib.hid kb; clear k0 ka kb
      go_wp2_with fail
      refine (rvalid_any _ _ _).mono ?_; rintro e2 w2 ⟨rfl, hb2⟩; rw [vb]
      have z2 := hb2.size
      replace K0 := Lib.hid (blk_below K0.out hb2 (by omega))
      replace KA := Lib.hid (blk_below KA.out hb2 (by omega))
      replace KB := Lib.hid (blk_below KB.out hb2 (by omega))
      replace B := below_after B hb2 (by omega)
      clear hb2 kb0 kb1
      have ka0 := blk_cell KA.out 0; have ka1 := blk_cell KA.out 1; have kb0 := blk_cell KB.out 0; have kb1 := blk_cell KB.out 1
      simp at ka0 ka1 kb0 kb1
      go_wp2_with fail
      refine (reduced_any _ _ _ PP.out.1 PP.out.2.1 PP.out.2.2.1 PP.out.2.2.2.1 PP.out.2.2.2.2).mono ?_; rintro e3 w3 ⟨rfl, hb3⟩
      have z3 := hb3.size
      have k5 := blk_below K0.out hb3 (by omega)
      replace B := below_after B hb3 (by omega)
      clear hb3
      have d0 := blk_cell k5 0; have d1 := blk_cell k5 1; have f0 := blk_free k5 0; have f1 := blk_free k5 1
      simp at d0 d1
      have hlt : w.heap.size + 1 + 1 < w3.heap.size := by omega
      clear k5
      rw [ef]
      go_wp2
      exact bodyPost_ret (v := .tuple #[.agg #[.int .i64 0, .int .i64 0], .int .i64 70]) (by simp [results, Try.results16, go_sem, d0, d1, hlt]) rfl ⟨by rw [R1.out, R2.out], by go_grown⟩
  · have g : ¬ addGood an ad bn bd := fun k => hv ⟨k.1, k.2.1⟩
    simp only [addN, addD, addE, if_neg g]
    clear g
    by_cases ha : Valid an ad
    · have va : validB an ad = true := decide_eq_true ha
      have vb : validB bn bd = false := decide_eq_false fun k => hv ⟨ha, k⟩
      clear hv ha
      go_enter Try.func16, Try.ntmps16
      go_wp2_with fail
      refine (rvalid_any _ _ _).mono ?_; rintro e1 w1 ⟨rfl, hb1⟩; rw [va]
      have k0 := blk_below (blk_new _ _) hb1 (by simp)
      have ka := blk_below (blk_alloc (blk_alloc (blk_new w _) _) _) hb1 (by simp; omega)
      have kb := blk_below (blk_alloc (blk_new _ _) _) hb1 (by simp)
      rw [World.size_alloc, World.size_alloc] at k0
      rw [World.size_alloc] at kb
      have z1 := hb1.size
      simp at z1
      have B := below_after (by go_grown : Below w.heap.size w (((w.alloc (.cells #[.int .i64 an, .int .i64 ad] 23)).alloc (.cells #[.int .i64 bn, .int .i64 bd] 23)).alloc (.cells #[.int .i64 0, .int .i64 0] 23))) hb1 (by simp; omega)
      clear hb1
      have kb0 := blk_cell kb 0; have kb1 := blk_cell kb 1
      simp at kb0 kb1
      have K0 := Lib.hid k0; have KA := Lib.hid ka; have KB := Lib.hid kb; clear k0 ka kb
      go_wp2_with fail
      refine (rvalid_any _ _ _).mono ?_; rintro e2 w2 ⟨rfl, hb2⟩; rw [vb]
      have z2 := hb2.size
      replace K0 := Lib.hid (blk_below K0.out hb2 (by omega))
      replace KA := Lib.hid (blk_below KA.out hb2 (by omega))
      replace KB := Lib.hid (blk_below KB.out hb2 (by omega))
      replace B := below_after B hb2 (by omega)
      clear hb2 kb0 kb1
      have d0 := blk_cell K0.out 0; have d1 := blk_cell K0.out 1; have f0 := blk_free K0.out 0; have f1 := blk_free K0.out 1
      simp at d0 d1
      go_wp2
      exact bodyPost_ret (v := .tuple #[.agg #[.int .i64 0, .int .i64 0], .int .i64 70]) (by simp [results, Try.results16, go_sem, d0, d1]) rfl ⟨rfl, by go_grown⟩
    · have va : validB an ad = false := decide_eq_false ha
      clear hv ha
      go_enter Try.func16, Try.ntmps16
      go_wp2_with fail
      refine (rvalid_any _ _ _).mono ?_; rintro e1 w1 ⟨rfl, hb1⟩; rw [va]
      have k0 := blk_below (blk_new _ _) hb1 (by simp)
      rw [World.size_alloc, World.size_alloc] at k0
      have B := below_after (by go_grown : Below w.heap.size w (((w.alloc (.cells #[.int .i64 an, .int .i64 ad] 23)).alloc (.cells #[.int .i64 bn, .int .i64 bd] 23)).alloc (.cells #[.int .i64 0, .int .i64 0] 23))) hb1 (by simp; omega)
      clear hb1
      have d0 := blk_cell k0 0; have d1 := blk_cell k0 1; have f0 := blk_free k0 0; have f1 := blk_free k0 1
      simp at d0 d1
      clear k0
      go_wp2
      exact bodyPost_ret (v := .tuple #[.agg #[.int .i64 0, .int .i64 0], .int .i64 70]) (by simp [results, Try.results16, go_sem, d0, d1]) rfl ⟨rfl, by go_grown⟩

set_option maxHeartbeats 1000000 in
theorem rmul_any (an ad bn bd : Int) (w : World) :
    Calls Try.prog 18 #[.agg #[.int .i64 an, .int .i64 ad], .agg #[.int .i64 bn, .int .i64 bd]] w fun e w' => e = .returned (.tuple #[.agg #[.int .i64 (mulN an ad bn bd), .int .i64 (mulD an ad bn bd)], .int .i64 (mulE an ad bn bd)]) ∧ Below w.heap.size w w' := by
  by_cases hv : Valid an ad ∧ Valid bn bd
  · have va : validB an ad = true := decide_eq_true hv.1
    have vb : validB bn bd = true := decide_eq_true hv.2
    have P := mulbd hv.1 hv.2
    have hN : mulN an ad bn bd = rdN (an * bn) (ad * bd) := by
      unfold mulN rdN mulGood; simp only [hv.1, hv.2, true_and]
    have hD : mulD an ad bn bd = rdD (an * bn) (ad * bd) := by
      unfold mulD rdD mulGood; simp only [hv.1, hv.2, true_and]
    have hE : mulE an ad bn bd = if Fits (an * bn) (ad * bd) then 0 else 70 := by
      unfold mulE mulGood; simp only [hv.1, hv.2, true_and]
    rw [hN, hD, hE]
    obtain ⟨⟨a1, a2, a3, a4, _⟩, b1, b2, b3, b4, _⟩ := hv
    have m1 := pr_bd a3 a4 b1 b2
    have m2 := pr_bd b3 b4 a1 a2
    have m3 := pr_bd (by omega : -2147483647 ≤ ad) a2 b1 b2
    have m4 := pr_bd2 a3 a4 b3 b4
    have PP := Lib.hid P; clear P hN hD hE
    by_cases hf : Fits (an * bn) (ad * bd)
    · have ef : fitB (an * bn) (ad * bd) = true := decide_eq_true hf
      rw [if_pos hf]; clear hf
      go_enter Try.func18, Try.ntmps18
      go_wp2_with fail
      refine (rvalid_any _ _ _).mono ?_; rintro e1 w1 ⟨rfl, hb1⟩; rw [va]
      have k0 := blk_below (blk_new _ _) hb1 (by simp)
      have ka := blk_below (blk_alloc (blk_alloc (blk_new w _) _) _) hb1 (by simp; omega)
      have kb := blk_below (blk_alloc (blk_new _ _) _) hb1 (by simp)
      rw [World.size_alloc, World.size_alloc] at k0
      rw [World.size_alloc] at kb
      have z1 := hb1.size
      simp at z1
      have B := below_after (by go_grown : Below w.heap.size w (((w.alloc (.cells #[.int .i64 an, .int .i64 ad] 23)).alloc (.cells #[.int .i64 bn, .int .i64 bd] 23)).alloc (.cells #[.int .i64 0, .int .i64 0] 23))) hb1 (by simp; omega)
      clear hb1
      have kb0 := blk_cell kb 0; have kb1 := blk_cell kb 1
      simp at kb0 kb1
      have K0 := Lib.hid k0; have KA := Lib.hid ka; have KB := Lib.hid kb; clear k0 ka kb
      go_wp2_with fail
      refine (rvalid_any _ _ _).mono ?_; rintro e2 w2 ⟨rfl, hb2⟩; rw [vb]
      have z2 := hb2.size
      replace K0 := Lib.hid (blk_below K0.out hb2 (by omega))
      replace KA := Lib.hid (blk_below KA.out hb2 (by omega))
      replace KB := Lib.hid (blk_below KB.out hb2 (by omega))
      replace B := below_after B hb2 (by omega)
      clear hb2 kb0 kb1
      have ka0 := blk_cell KA.out 0; have ka1 := blk_cell KA.out 1; have kb0 := blk_cell KB.out 0; have kb1 := blk_cell KB.out 1
      simp at ka0 ka1 kb0 kb1
      go_wp2_with fail
      refine (reduced_any _ _ _ PP.out.1 PP.out.2.1 PP.out.2.2.1 PP.out.2.2.2.1 PP.out.2.2.2.2).mono ?_; rintro e3 w3 ⟨rfl, hb3⟩
      have z3 := hb3.size
      have k5 := blk_below K0.out hb3 (by omega)
      replace B := below_after B hb3 (by omega)
      clear hb3
      have d0 := blk_cell k5 0; have d1 := blk_cell k5 1; have f0 := blk_free k5 0; have f1 := blk_free k5 1
      simp at d0 d1
      have hlt : w.heap.size + 1 + 1 < w3.heap.size := by omega
      clear k5
      rw [ef]
      go_wp2
      exact bodyPost_ret (v := .tuple #[.agg #[.int .i64 (rdN (an * bn) (ad * bd)), .int .i64 (rdD (an * bn) (ad * bd))], .int .i64 0]) (by simp [results, Try.results18, go_sem, d0, d1, hlt]) rfl ⟨rfl, by go_grown⟩
    · have ef : fitB (an * bn) (ad * bd) = false := decide_eq_false hf
      have r1 : rdN (an * bn) (ad * bd) = 0 := if_neg hf
      have r2 : rdD (an * bn) (ad * bd) = 0 := if_neg hf
      rw [if_neg hf]; clear hf
      have R1 := Lib.hid r1; have R2 := Lib.hid r2; clear r1 r2
      go_enter Try.func18, Try.ntmps18
      go_wp2_with fail
      refine (rvalid_any _ _ _).mono ?_; rintro e1 w1 ⟨rfl, hb1⟩; rw [va]
      have k0 := blk_below (blk_new _ _) hb1 (by simp)
      have ka := blk_below (blk_alloc (blk_alloc (blk_new w _) _) _) hb1 (by simp; omega)
      have kb := blk_below (blk_alloc (blk_new _ _) _) hb1 (by simp)
      rw [World.size_alloc, World.size_alloc] at k0
      rw [World.size_alloc] at kb
      have z1 := hb1.size
      simp at z1
      have B := below_after (by go_grown : Below w.heap.size w (((w.alloc (.cells #[.int .i64 an, .int .i64 ad] 23)).alloc (.cells #[.int .i64 bn, .int .i64 bd] 23)).alloc (.cells #[.int .i64 0, .int .i64 0] 23))) hb1 (by simp; omega)
      clear hb1
      have kb0 := blk_cell kb 0; have kb1 := blk_cell kb 1
      simp at kb0 kb1
      have K0 := Lib.hid k0; have KA := Lib.hid ka; have KB := Lib.hid kb; clear k0 ka kb
      go_wp2_with fail
      refine (rvalid_any _ _ _).mono ?_; rintro e2 w2 ⟨rfl, hb2⟩; rw [vb]
      have z2 := hb2.size
      replace K0 := Lib.hid (blk_below K0.out hb2 (by omega))
      replace KA := Lib.hid (blk_below KA.out hb2 (by omega))
      replace KB := Lib.hid (blk_below KB.out hb2 (by omega))
      replace B := below_after B hb2 (by omega)
      clear hb2 kb0 kb1
      have ka0 := blk_cell KA.out 0; have ka1 := blk_cell KA.out 1; have kb0 := blk_cell KB.out 0; have kb1 := blk_cell KB.out 1
      simp at ka0 ka1 kb0 kb1
      go_wp2_with fail
      refine (reduced_any _ _ _ PP.out.1 PP.out.2.1 PP.out.2.2.1 PP.out.2.2.2.1 PP.out.2.2.2.2).mono ?_; rintro e3 w3 ⟨rfl, hb3⟩
      have z3 := hb3.size
      have k5 := blk_below K0.out hb3 (by omega)
      replace B := below_after B hb3 (by omega)
      clear hb3
      have d0 := blk_cell k5 0; have d1 := blk_cell k5 1; have f0 := blk_free k5 0; have f1 := blk_free k5 1
      simp at d0 d1
      have hlt : w.heap.size + 1 + 1 < w3.heap.size := by omega
      clear k5
      rw [ef]
      go_wp2
      exact bodyPost_ret (v := .tuple #[.agg #[.int .i64 0, .int .i64 0], .int .i64 70]) (by simp [results, Try.results18, go_sem, d0, d1, hlt]) rfl ⟨by rw [R1.out, R2.out], by go_grown⟩
  · have g : ¬ mulGood an ad bn bd := fun k => hv ⟨k.1, k.2.1⟩
    simp only [mulN, mulD, mulE, if_neg g]
    clear g
    by_cases ha : Valid an ad
    · have va : validB an ad = true := decide_eq_true ha
      have vb : validB bn bd = false := decide_eq_false fun k => hv ⟨ha, k⟩
      clear hv ha
      go_enter Try.func18, Try.ntmps18
      go_wp2_with fail
      refine (rvalid_any _ _ _).mono ?_; rintro e1 w1 ⟨rfl, hb1⟩; rw [va]
      have k0 := blk_below (blk_new _ _) hb1 (by simp)
      have ka := blk_below (blk_alloc (blk_alloc (blk_new w _) _) _) hb1 (by simp; omega)
      have kb := blk_below (blk_alloc (blk_new _ _) _) hb1 (by simp)
      rw [World.size_alloc, World.size_alloc] at k0
      rw [World.size_alloc] at kb
      have z1 := hb1.size
      simp at z1
      have B := below_after (by go_grown : Below w.heap.size w (((w.alloc (.cells #[.int .i64 an, .int .i64 ad] 23)).alloc (.cells #[.int .i64 bn, .int .i64 bd] 23)).alloc (.cells #[.int .i64 0, .int .i64 0] 23))) hb1 (by simp; omega)
      clear hb1
      have kb0 := blk_cell kb 0; have kb1 := blk_cell kb 1
      simp at kb0 kb1
      have K0 := Lib.hid k0; have KA := Lib.hid ka; have KB := Lib.hid kb; clear k0 ka kb
      go_wp2_with fail
      refine (rvalid_any _ _ _).mono ?_; rintro e2 w2 ⟨rfl, hb2⟩; rw [vb]
      have z2 := hb2.size
      replace K0 := Lib.hid (blk_below K0.out hb2 (by omega))
      replace KA := Lib.hid (blk_below KA.out hb2 (by omega))
      replace KB := Lib.hid (blk_below KB.out hb2 (by omega))
      replace B := below_after B hb2 (by omega)
      clear hb2 kb0 kb1
      have d0 := blk_cell K0.out 0; have d1 := blk_cell K0.out 1; have f0 := blk_free K0.out 0; have f1 := blk_free K0.out 1
      simp at d0 d1
      go_wp2
      exact bodyPost_ret (v := .tuple #[.agg #[.int .i64 0, .int .i64 0], .int .i64 70]) (by simp [results, Try.results18, go_sem, d0, d1]) rfl ⟨rfl, by go_grown⟩
    · have va : validB an ad = false := decide_eq_false ha
      clear hv ha
      go_enter Try.func18, Try.ntmps18
      go_wp2_with fail
      refine (rvalid_any _ _ _).mono ?_; rintro e1 w1 ⟨rfl, hb1⟩; rw [va]
      have k0 := blk_below (blk_new _ _) hb1 (by simp)
      rw [World.size_alloc, World.size_alloc] at k0
      have B := below_after (by go_grown : Below w.heap.size w (((w.alloc (.cells #[.int .i64 an, .int .i64 ad] 23)).alloc (.cells #[.int .i64 bn, .int .i64 bd] 23)).alloc (.cells #[.int .i64 0, .int .i64 0] 23))) hb1 (by simp; omega)
      clear hb1
      have d0 := blk_cell k0 0; have d1 := blk_cell k0 1; have f0 := blk_free k0 0; have f1 := blk_free k0 1
      simp at d0 d1
      clear k0
      go_wp2
      exact bodyPost_ret (v := .tuple #[.agg #[.int .i64 0, .int .i64 0], .int .i64 70]) (by simp [results, Try.results18, go_sem, d0, d1]) rfl ⟨rfl, by go_grown⟩

set_option maxHeartbeats 1000000 in
theorem rmake_any (n d : Int) (w : World) :
    Calls Try.prog 12 #[.int .i64 n, .int .i64 d] w fun e w' => e = .returned (.tuple #[.agg #[.int .i64 (makeN n d), .int .i64 (makeD n d)], .int .i64 (makeE n d)]) ∧ Below w.heap.size w w' := by
  by_cases ha : makeArg n d
  · obtain ⟨hd, d1, d2, n1, n2⟩ := id ha
    have hN : makeN n d = rdN n d := by unfold makeN rdN makeGood; simp only [ha, true_and]
    have hD : makeD n d = rdD n d := by unfold makeD rdD makeGood; simp only [ha, true_and]
    have hE : makeE n d = if Fits n d then 0 else 70 := by unfold makeE makeGood; simp only [ha, true_and, if_true]
    rw [hN, hD, hE]
    have hd' : (d == 0) = false := by simpa using hd
    clear hN hD hE ha
    have HD := Lib.hid hd; clear hd
    by_cases hf : Fits n d
    · have ef : fitB n d = true := decide_eq_true hf
      rw [if_pos hf]; clear hf
      go_enter Try.func12, Try.ntmps12
      go_wp2_with fail
      refine (reduced_any _ _ _ HD.out d1 d2 (by omega) (by omega)).mono ?_; rintro e3 w3 ⟨rfl, hb3⟩
      have z3 := hb3.size
      have k5 := blk_below (blk_new _ _) hb3 (by simp)
      have B := below_after (by go_grown : Below w.heap.size w (w.alloc (.cells #[.int .i64 0, .int .i64 0] 23))) hb3 (by simp)
      clear hb3
      have d0 := blk_cell k5 0; have d1 := blk_cell k5 1; have f0 := blk_free k5 0; have f1 := blk_free k5 1
      simp at d0 d1 z3
      have hlt : w.heap.size < w3.heap.size := by omega
      clear k5
      rw [ef]
      go_wp2
      exact bodyPost_ret (v := .tuple #[.agg #[.int .i64 (rdN n d), .int .i64 (rdD n d)], .int .i64 0]) (by simp [results, Try.results12, go_sem, d0, d1, hlt]) rfl ⟨rfl, by go_grown⟩
    · have ef : fitB n d = false := decide_eq_false hf
      have r1 : rdN n d = 0 := if_neg hf
      have r2 : rdD n d = 0 := if_neg hf
      rw [if_neg hf]; clear hf
      have R1 := Lib.hid r1; have R2 := Lib.hid r2; clear r1 r2
      go_enter Try.func12, Try.ntmps12
      go_wp2_with fail
      refine (reduced_any _ _ _ HD.out d1 d2 (by omega) (by omega)).mono ?_; rintro e3 w3 ⟨rfl, hb3⟩
      have z3 := hb3.size
      have k5 := blk_below (blk_new _ _) hb3 (by simp)
      have B := below_after (by go_grown : Below w.heap.size w (w.alloc (.cells #[.int .i64 0, .int .i64 0] 23))) hb3 (by simp)
      clear hb3
      have d0 := blk_cell k5 0; have d1 := blk_cell k5 1; have f0 := blk_free k5 0; have f1 := blk_free k5 1
      simp at d0 d1 z3
      have hlt : w.heap.size < w3.heap.size := by omega
      clear k5
      rw [ef]
      go_wp2
      exact bodyPost_ret (v := .tuple #[.agg #[.int .i64 0, .int .i64 0], .int .i64 70]) (by simp [results, Try.results12, go_sem, d0, d1, hlt]) rfl ⟨by rw [R1.out, R2.out], by go_grown⟩
  · have g : ¬ makeGood n d := fun k => ha k.1
    simp only [makeN, makeD, makeE, if_neg g, if_neg ha]
    clear g
    unfold makeArg at ha
    by_cases hd : d = 0
    · subst hd
      clear ha
      go_enter Try.func12, Try.ntmps12
      go_wp2_with fail
      exact bodyPost_ret (v := .tuple #[.agg #[.int .i64 0, .int .i64 0], .int .i64 1]) (by simp [results, Try.results12, go_sem]) rfl ⟨rfl, by go_grown⟩
    · have hd' : (d == 0) = false := by simpa using hd
      have HA := Lib.hid ha; have HD := Lib.hid hd; clear ha hd
      go_enter Try.func12, Try.ntmps12
      go_wp2_with fail
      all_goals first | (exfalso; have := HA.out; have := HD.out; omega) | exact bodyPost_ret (v := .tuple #[.agg #[.int .i64 0, .int .i64 0], .int .i64 1]) (by simp [results, Try.results12, go_sem]) rfl ⟨rfl, by go_grown⟩

theorem inv_red {n d : Int} (hv : Valid n d) (hn : n ≠ 0) : redN d n = d * sgn n ∧ redD d n = n * sgn n := by
  obtain ⟨h1, h2, h3, h4, h5⟩ := hv
  have c : Int.gcd d n = 1 := by rw [Int.gcd_comm]; exact h5
  rcases sgn_cases hn with ⟨e, p⟩ | ⟨e, p⟩ <;> rw [e]
  · rw [Int.mul_one, Int.mul_one]
    exact red_unique hn (by omega) c rfl
  · have e1 : d * -1 = -d := by omega
    have e2 : n * -1 = -n := by omega
    rw [e1, e2]
    exact red_unique hn (by omega) (by rw [Int.neg_gcd, Int.gcd_neg]; exact c) (by rw [Int.neg_mul, Int.mul_neg])

set_option maxHeartbeats 1000000 in
theorem rinv_any (n d : Int) (w : World) :
    Calls Try.prog 20 #[.agg #[.int .i64 n, .int .i64 d]] w fun e w' => e = .returned (.tuple #[.agg #[.int .i64 (invN n d), .int .i64 (invD n d)], .int .i64 (invE n d)]) ∧ Below w.heap.size w w' := by
  by_cases hv : Valid n d
  · have e : validB n d = true := decide_eq_true hv
    by_cases hn : n = 0
    · have g : ¬ invGood n d := fun k => k.2 hn
      simp only [invN, invD, invE, if_neg g, if_pos hv]
      subst hn
      clear g
      go_enter Try.func20, Try.ntmps20
      go_wp2_with fail
      refine (rvalid_any _ _ _).mono ?_; rintro e1 w1 ⟨rfl, hb1⟩; rw [e]
      have k0 := blk_below (blk_alloc (blk_new _ _) _) hb1 (by simp; omega)
      have k1 := blk_below (blk_new _ _) hb1 (by simp)
      rw [World.size_alloc] at k1
      have B := below_after (by go_grown : Below w.heap.size w ((w.alloc (.cells #[.int .i64 0, .int .i64 d] 23)).alloc (.cells #[.int .i64 0, .int .i64 0] 23))) hb1 (by simp; omega)
      have c0 := blk_cell k0 0; have c1 := blk_cell k0 1; have d0 := blk_cell k1 0; have d1 := blk_cell k1 1; have f0 := blk_free k1 0; have f1 := blk_free k1 1
      simp at c0 c1 d0 d1
      clear k0 k1 hb1 e hv
      go_wp2
      exact bodyPost_ret (v := .tuple #[.agg #[.int .i64 0, .int .i64 0], .int .i64 1]) (by simp [results, Try.results20, go_sem, d0, d1]) rfl ⟨rfl, by go_grown⟩
    · have g : invGood n d := ⟨hv, hn⟩
      simp only [invN, invD, invE, if_pos g]
      obtain ⟨i1, i2⟩ := inv_red hv hn
      obtain ⟨h1, h2, h3, h4, h5⟩ := hv
      have hf : Fits d n := by
        unfold Fits; rw [i1, i2]
        rcases sgn_cases hn with ⟨q, _⟩ | ⟨q, _⟩ <;> rw [q] <;> omega
      have r1 : rdN d n = d * sgn n := by rw [← i1]; exact if_pos hf
      have r2 : rdD d n = n * sgn n := by rw [← i2]; exact if_pos hf
      rw [← r1, ← r2]
      have ef : fitB d n = true := decide_eq_true hf
      have hn' : (n == 0) = false := by simpa using hn
      have HN := Lib.hid hn
      clear hn g i1 i2 r1 r2 hf
      go_enter Try.func20, Try.ntmps20
      go_wp2_with fail
      refine (rvalid_any _ _ _).mono ?_; rintro e1 w1 ⟨rfl, hb1⟩; rw [e]
      have k0 := blk_below (blk_alloc (blk_new _ _) _) hb1 (by simp; omega)
      have k1 := blk_below (blk_new _ _) hb1 (by simp)
      rw [World.size_alloc] at k1
      have z1 := hb1.size
      simp at z1
      have B := below_after (by go_grown : Below w.heap.size w ((w.alloc (.cells #[.int .i64 n, .int .i64 d] 23)).alloc (.cells #[.int .i64 0, .int .i64 0] 23))) hb1 (by simp; omega)
      have c0 := blk_cell k0 0; have c1 := blk_cell k0 1
      simp at c0 c1
      have K1 := Lib.hid k1
      clear k0 k1 hb1 e
      go_wp2_with fail
      refine (reduced_any _ _ _ HN.out (by omega) (by omega) (by omega) (by omega)).mono ?_; rintro e3 w3 ⟨rfl, hb3⟩
      have z3 := hb3.size
      have k5 := blk_below K1.out hb3 (by omega)
      replace B := below_after B hb3 (by omega)
      clear hb3
      have d0 := blk_cell k5 0; have d1 := blk_cell k5 1; have f0 := blk_free k5 0; have f1 := blk_free k5 1
      simp at d0 d1
      have hlt : w.heap.size + 1 < w3.heap.size := by omega
      clear k5
      rw [ef]
      go_wp2
      exact bodyPost_ret (v := .tuple #[.agg #[.int .i64 (rdN d n), .int .i64 (rdD d n)], .int .i64 0]) (by simp [results, Try.results20, go_sem, d0, d1, hlt]) rfl ⟨rfl, by go_grown⟩
  · have e : validB n d = false := decide_eq_false hv
    have g : ¬ invGood n d := fun k => hv k.1
    simp only [invN, invD, invE, if_neg g, if_neg hv]
    clear g hv
    go_enter Try.func20, Try.ntmps20
    go_wp2_with fail
    refine (rvalid_any _ _ _).mono ?_; rintro e1 w1 ⟨rfl, hb1⟩; rw [e]
    have k1 := blk_below (blk_new _ _) hb1 (by simp)
    rw [World.size_alloc] at k1
    have B := below_after (by go_grown : Below w.heap.size w ((w.alloc (.cells #[.int .i64 n, .int .i64 d] 23)).alloc (.cells #[.int .i64 0, .int .i64 0] 23))) hb1 (by simp; omega)
    have d0 := blk_cell k1 0; have d1 := blk_cell k1 1; have f0 := blk_free k1 0; have f1 := blk_free k1 1
    simp at d0 d1
    clear k1 hb1 e
    go_wp2
    exact bodyPost_ret (v := .tuple #[.agg #[.int .i64 0, .int .i64 0], .int .i64 70]) (by simp [results, Try.results20, go_sem, d0, d1]) rfl ⟨rfl, by go_grown⟩

set_option maxHeartbeats 1000000 in
theorem rfloor_any (n d : Int) (w : World) :
    Calls Try.prog 24 #[.agg #[.int .i64 n, .int .i64 d]] w fun e w' => e = .returned (.tuple #[.int .i64 (floorV n d), .int .i64 (ratOk n d)]) ∧ Below w.heap.size w w' := by
  by_cases hv : Valid n d
  · have e : validB n d = true := decide_eq_true hv
    simp only [floorV, if_pos hv]
    rw [ok_yes hv]
    obtain ⟨h1, h2, h3, h4, _⟩ := hv
    go_enter Try.func24, Try.ntmps24
    go_wp2_with fail
    refine (rvalid_any _ _ _).mono ?_; rintro e1 w1 ⟨rfl, hb1⟩; rw [e]
    have k0 := blk_below (blk_new _ _) hb1 (by simp)
    have B := below_after (by go_grown : Below w.heap.size w (w.alloc (.cells #[.int .i64 n, .int .i64 d] 23))) hb1 (by simp)
    have c0 := blk_cell k0 0; have c1 := blk_cell k0 1
    simp at c0 c1
    clear k0 hb1 e
    go_wp2_with (go_at_call 38; refine (rdown_any _ _ _ (by omega) (by omega) (by omega) (by omega)).mono ?_; rintro e w' ⟨rfl, rfl⟩)
    go_ret2
    exact ⟨rfl, B⟩
  · have e : validB n d = false := decide_eq_false hv
    simp only [floorV, if_neg hv]
    rw [ok_no hv]
    clear hv
    go_enter Try.func24, Try.ntmps24
    go_wp2_with fail
    refine (rvalid_any _ _ _).mono ?_; rintro e1 w1 ⟨rfl, hb1⟩; rw [e]
    have B := below_after (by go_grown : Below w.heap.size w (w.alloc (.cells #[.int .i64 n, .int .i64 d] 23))) hb1 (by simp)
    clear hb1 e
    go_wp2
    go_ret2
    exact ⟨rfl, B⟩

set_option maxHeartbeats 1000000 in
theorem rless_any (an ad bn bd : Int) (w : World) :
    Calls Try.prog 22 #[.agg #[.int .i64 an, .int .i64 ad], .agg #[.int .i64 bn, .int .i64 bd]] w fun e w' => e = .returned (.tuple #[.bool (lessV an ad bn bd), .int .i64 (lessE an ad bn bd)]) ∧ Below w.heap.size w w' := by
  by_cases hv : Valid an ad ∧ Valid bn bd
  · have va : validB an ad = true := decide_eq_true hv.1
    have vb : validB bn bd = true := decide_eq_true hv.2
    have el : lessV an ad bn bd = decide (an * bd < bn * ad) := by unfold lessV; simp [hv.1, hv.2]
    have ee : lessE an ad bn bd = 0 := if_pos hv
    rw [ee, el]
    obtain ⟨⟨a1, a2, a3, a4, _⟩, b1, b2, b3, b4, _⟩ := hv
    have m1 := pr_bd a3 a4 b1 b2
    have m2 := pr_bd b3 b4 a1 a2
    clear el ee
    go_enter Try.func22, Try.ntmps22
    go_wp2_with fail
    refine (rvalid_any _ _ _).mono ?_; rintro e1 w1 ⟨rfl, hb1⟩; rw [va]
    have ka := blk_below (blk_alloc (blk_new w _) _) hb1 (by simp; omega)
    have kb := blk_below (blk_new _ _) hb1 (by simp)
    rw [World.size_alloc] at kb
    have z1 := hb1.size
    simp at z1
    have B := below_after (by go_grown : Below w.heap.size w ((w.alloc (.cells #[.int .i64 an, .int .i64 ad] 23)).alloc (.cells #[.int .i64 bn, .int .i64 bd] 23))) hb1 (by simp; omega)
    clear hb1
    have kb0 := blk_cell kb 0; have kb1 := blk_cell kb 1
    simp at kb0 kb1
    have KA := Lib.hid ka; have KB := Lib.hid kb; clear ka kb
    go_wp2_with fail
    refine (rvalid_any _ _ _).mono ?_; rintro e2 w2 ⟨rfl, hb2⟩; rw [vb]
    have z2 := hb2.size
    replace KA := Lib.hid (blk_below KA.out hb2 (by omega))
    replace KB := Lib.hid (blk_below KB.out hb2 (by omega))
    replace B := below_after B hb2 (by omega)
    clear hb2 kb0 kb1
    have ka0 := blk_cell KA.out 0; have ka1 := blk_cell KA.out 1; have kb0 := blk_cell KB.out 0; have kb1 := blk_cell KB.out 1
    simp at ka0 ka1 kb0 kb1
    go_wp2
    go_ret2
    exact ⟨rfl, B⟩
  · have el : lessV an ad bn bd = false := by unfold lessV; simp; intro h1 h2; exact absurd ⟨h1, h2⟩ hv
    have ee : lessE an ad bn bd = 70 := if_neg hv
    rw [ee, el]
    clear ee el
    by_cases ha : Valid an ad
    · have va : validB an ad = true := decide_eq_true ha
      have vb : validB bn bd = false := decide_eq_false fun k => hv ⟨ha, k⟩
      clear hv ha
      go_enter Try.func22, Try.ntmps22
      go_wp2_with fail
      refine (rvalid_any _ _ _).mono ?_; rintro e1 w1 ⟨rfl, hb1⟩; rw [va]
      have kb := blk_below (blk_new _ _) hb1 (by simp)
      rw [World.size_alloc] at kb
      have z1 := hb1.size
      simp at z1
      have B := below_after (by go_grown : Below w.heap.size w ((w.alloc (.cells #[.int .i64 an, .int .i64 ad] 23)).alloc (.cells #[.int .i64 bn, .int .i64 bd] 23))) hb1 (by simp; omega)
      clear hb1
      have kb0 := blk_cell kb 0; have kb1 := blk_cell kb 1
      simp at kb0 kb1
      clear kb
      go_wp2_with fail
      refine (rvalid_any _ _ _).mono ?_; rintro e2 w2 ⟨rfl, hb2⟩; rw [vb]
      replace B := below_after B hb2 (by omega)
      clear hb2
      go_wp2
      go_ret2
      exact ⟨rfl, B⟩
    · have va : validB an ad = false := decide_eq_false ha
      clear hv ha
      go_enter Try.func22, Try.ntmps22
      go_wp2_with fail
      refine (rvalid_any _ _ _).mono ?_; rintro e1 w1 ⟨rfl, hb1⟩; rw [va]
      have B := below_after (by go_grown : Below w.heap.size w ((w.alloc (.cells #[.int .i64 an, .int .i64 ad] 23)).alloc (.cells #[.int .i64 bn, .int .i64 bd] 23))) hb1 (by simp; omega)
      clear hb1
      go_wp2
      go_ret2
      exact ⟨rfl, B⟩
end Go.Proofs.Ytaaoekddhgjckaa
