/- Plain arithmetic behind the statements of layer 7. -/
import Derived.Test.YtaaoekddhgjckaaRatRefMain
namespace Go.Proofs.Ytaaoekddhgjckaa

theorem addE_iff {an ad bn bd : Int} : addE an ad bn bd = 0 ↔ addGood an ad bn bd := by unfold addE; split <;> simp_all
theorem mulE_iff {an ad bn bd : Int} : mulE an ad bn bd = 0 ↔ mulGood an ad bn bd := by unfold mulE; split <;> simp_all
theorem addN_comm (an ad bn bd : Int) : addN bn bd an ad = addN an ad bn bd ∧ addD bn bd an ad = addD an ad bn bd ∧ addE bn bd an ad = addE an ad bn bd := by
  have e : bn * ad + an * bd = an * bd + bn * ad := Int.add_comm _ _
  have f : bd * ad = ad * bd := Int.mul_comm _ _
  have g : addGood bn bd an ad ↔ addGood an ad bn bd := by
    unfold addGood; rw [e, f]; exact ⟨fun h => ⟨h.2.1, h.1, h.2.2⟩, fun h => ⟨h.2.1, h.1, h.2.2⟩⟩
  unfold addN addD addE
  simp only [g, e, f, and_self]
theorem mulN_comm (an ad bn bd : Int) : mulN bn bd an ad = mulN an ad bn bd ∧ mulD bn bd an ad = mulD an ad bn bd ∧ mulE bn bd an ad = mulE an ad bn bd := by
  have e : bn * an = an * bn := Int.mul_comm _ _
  have f : bd * ad = ad * bd := Int.mul_comm _ _
  have g : mulGood bn bd an ad ↔ mulGood an ad bn bd := by
    unfold mulGood; rw [e, f]; exact ⟨fun h => ⟨h.2.1, h.1, h.2.2⟩, fun h => ⟨h.2.1, h.1, h.2.2⟩⟩
  unfold mulN mulD mulE
  simp only [g, e, f, and_self]

theorem add_good {an ad bn bd : Int} (h : addGood an ad bn bd) : Valid an ad ∧ Valid bn bd ∧ Valid (addN an ad bn bd) (addD an ad bn bd) ∧ addN an ad bn bd * (ad * bd) = (an * bd + bn * ad) * addD an ad bn bd := by
  have hd := (addbd h.1 h.2.1).1
  refine ⟨h.1, h.2.1, ?_, ?_⟩
  · unfold addN addD; rw [if_pos h, if_pos h]; exact (fits_iff hd).2 h.2.2
  · unfold addN addD; rw [if_pos h, if_pos h]; exact red_cross hd
theorem mul_good {an ad bn bd : Int} (h : mulGood an ad bn bd) : Valid an ad ∧ Valid bn bd ∧ Valid (mulN an ad bn bd) (mulD an ad bn bd) ∧ mulN an ad bn bd * (ad * bd) = (an * bn) * mulD an ad bn bd := by
  have hd := (mulbd h.1 h.2.1).1
  refine ⟨h.1, h.2.1, ?_, ?_⟩
  · unfold mulN mulD; rw [if_pos h, if_pos h]; exact (fits_iff hd).2 h.2.2
  · unfold mulN mulD; rw [if_pos h, if_pos h]; exact red_cross hd

theorem fits_eq {n d n' d' : Int} (e : redN n d = redN n' d' ∧ redD n d = redD n' d') : Fits n d ↔ Fits n' d' := by unfold Fits; rw [e.1, e.2]

/-- Two results whose terms are proportional are one. -/
theorem same_add_add {xn xd yn yd un ud vn vd : Int} (hx : Valid xn xd) (hy : Valid yn yd) (hu : Valid un ud) (hv : Valid vn vd)
    (e : (xn * yd + yn * xd) * (ud * vd) = (un * vd + vn * ud) * (xd * yd)) : addN xn xd yn yd = addN un ud vn vd ∧ addD xn xd yn yd = addD un ud vn vd ∧ addE xn xd yn yd = addE un ud vn vd := by
  have r := red_eq (addbd hx hy).1 (addbd hu hv).1 e
  have g : addGood xn xd yn yd ↔ addGood un ud vn vd := by unfold addGood; simp only [hx, hy, hu, hv, true_and]; exact fits_eq r
  unfold addN addD addE
  simp only [g, r.1, r.2, and_self]
theorem same_mul_mul {xn xd yn yd un ud vn vd : Int} (hx : Valid xn xd) (hy : Valid yn yd) (hu : Valid un ud) (hv : Valid vn vd)
    (e : (xn * yn) * (ud * vd) = (un * vn) * (xd * yd)) : mulN xn xd yn yd = mulN un ud vn vd ∧ mulD xn xd yn yd = mulD un ud vn vd ∧ mulE xn xd yn yd = mulE un ud vn vd := by
  have r := red_eq (mulbd hx hy).1 (mulbd hu hv).1 e
  have g : mulGood xn xd yn yd ↔ mulGood un ud vn vd := by unfold mulGood; simp only [hx, hy, hu, hv, true_and]; exact fits_eq r
  unfold mulN mulD mulE
  simp only [g, r.1, r.2, and_self]
theorem same_add_mul {xn xd yn yd un ud vn vd : Int} (hx : Valid xn xd) (hy : Valid yn yd) (hu : Valid un ud) (hv : Valid vn vd)
    (e : (xn * yd + yn * xd) * (ud * vd) = (un * vn) * (xd * yd)) : addN xn xd yn yd = mulN un ud vn vd ∧ addD xn xd yn yd = mulD un ud vn vd ∧ addE xn xd yn yd = mulE un ud vn vd := by
  have r := red_eq (addbd hx hy).1 (mulbd hu hv).1 e
  have g : addGood xn xd yn yd ↔ mulGood un ud vn vd := by unfold addGood mulGood; simp only [hx, hy, hu, hv, true_and]; exact fits_eq r
  unfold addN addD addE mulN mulD mulE
  simp only [g, r.1, r.2, and_self]

theorem pos_of_valid {n d : Int} (h : Valid n d) : 0 < d := by have := h.1; omega

theorem add_assoc {an ad bn bd cn cd : Int} (e : addE an ad bn bd = 0) (i : addE bn bd cn cd = 0) :
    addN an ad (addN bn bd cn cd) (addD bn bd cn cd) = addN (addN an ad bn bd) (addD an ad bn bd) cn cd ∧ addD an ad (addN bn bd cn cd) (addD bn bd cn cd) = addD (addN an ad bn bd) (addD an ad bn bd) cn cd ∧
      addE an ad (addN bn bd cn cd) (addD bn bd cn cd) = addE (addN an ad bn bd) (addD an ad bn bd) cn cd := by
  obtain ⟨va, vb, vs, hs⟩ := add_good (addE_iff.1 e)
  obtain ⟨_, vc, vt, ht⟩ := add_good (addE_iff.1 i)
  refine same_add_add va vt vs vc ?_
  generalize addN an ad bn bd = S at *; generalize addD an ad bn bd = s at *; generalize addN bn bd cn cd = T at *; generalize addD bn bd cn cd = t at *
  have hb := pos_of_valid vb
  refine Int.eq_of_mul_eq_mul_right (show bd ≠ 0 by omega) ?_
  calc (an * t + T * ad) * (s * cd) * bd = an * t * s * cd * bd + (T * (bd * cd)) * (ad * s) := by grind
    _ = an * t * s * cd * bd + ((bn * cd + cn * bd) * t) * (ad * s) := by rw [ht]
    _ = ((an * bd + bn * ad) * s) * (cd * t) + cn * s * ad * t * bd := by grind
    _ = (S * (ad * bd)) * (cd * t) + cn * s * ad * t * bd := by rw [hs]
    _ = (S * cd + cn * s) * (ad * t) * bd := by grind

theorem mul_assoc' {an ad bn bd cn cd : Int} (e : mulE an ad bn bd = 0) (i : mulE bn bd cn cd = 0) :
    mulN an ad (mulN bn bd cn cd) (mulD bn bd cn cd) = mulN (mulN an ad bn bd) (mulD an ad bn bd) cn cd ∧ mulD an ad (mulN bn bd cn cd) (mulD bn bd cn cd) = mulD (mulN an ad bn bd) (mulD an ad bn bd) cn cd ∧
      mulE an ad (mulN bn bd cn cd) (mulD bn bd cn cd) = mulE (mulN an ad bn bd) (mulD an ad bn bd) cn cd := by
  obtain ⟨va, vb, vs, hs⟩ := mul_good (mulE_iff.1 e)
  obtain ⟨_, vc, vt, ht⟩ := mul_good (mulE_iff.1 i)
  refine same_mul_mul va vt vs vc ?_
  generalize mulN an ad bn bd = S at *; generalize mulD an ad bn bd = s at *; generalize mulN bn bd cn cd = T at *; generalize mulD bn bd cn cd = t at *
  have hb := pos_of_valid vb
  refine Int.eq_of_mul_eq_mul_right (show bd ≠ 0 by omega) ?_
  calc (an * T) * (s * cd) * bd = (T * (bd * cd)) * (an * s) := by grind
    _ = ((bn * cn) * t) * (an * s) := by rw [ht]
    _ = ((an * bn) * s) * (cn * t) := by grind
    _ = (S * (ad * bd)) * (cn * t) := by rw [hs]
    _ = (S * cn) * (ad * t) * bd := by grind

theorem distrib {an ad bn bd cn cd : Int} (i : addE bn bd cn cd = 0) (g : mulE an ad bn bd = 0) (k : mulE an ad cn cd = 0) :
    addN (mulN an ad bn bd) (mulD an ad bn bd) (mulN an ad cn cd) (mulD an ad cn cd) = mulN an ad (addN bn bd cn cd) (addD bn bd cn cd) ∧ addD (mulN an ad bn bd) (mulD an ad bn bd) (mulN an ad cn cd) (mulD an ad cn cd) = mulD an ad (addN bn bd cn cd) (addD bn bd cn cd) ∧
      addE (mulN an ad bn bd) (mulD an ad bn bd) (mulN an ad cn cd) (mulD an ad cn cd) = mulE an ad (addN bn bd cn cd) (addD bn bd cn cd) := by
  obtain ⟨vb, vc, vt, ht⟩ := add_good (addE_iff.1 i)
  obtain ⟨va, _, vp, hp⟩ := mul_good (mulE_iff.1 g)
  obtain ⟨_, _, vq, hq⟩ := mul_good (mulE_iff.1 k)
  refine same_add_mul vp vq va vt ?_
  generalize mulN an ad bn bd = P at *; generalize mulD an ad bn bd = p at *; generalize mulN an ad cn cd = Q at *; generalize mulD an ad cn cd = q at *; generalize addN bn bd cn cd = T at *; generalize addD bn bd cn cd = t at *
  have hb := pos_of_valid vb; have hc := pos_of_valid vc
  refine Int.eq_of_mul_eq_mul_right (show bd * cd ≠ 0 from Int.mul_ne_zero (by omega) (by omega)) ?_
  calc (P * q + Q * p) * (ad * t) * (bd * cd) = (P * (ad * bd)) * (q * cd * t) + (Q * (ad * cd)) * (p * bd * t) := by grind
    _ = ((an * bn) * p) * (q * cd * t) + ((an * cn) * q) * (p * bd * t) := by rw [hp, hq]
    _ = ((bn * cd + cn * bd) * t) * (an * p * q) := by grind
    _ = (T * (bd * cd)) * (an * p * q) := by rw [ht]
    _ = (an * T) * (p * q) * (bd * cd) := by grind
end Go.Proofs.Ytaaoekddhgjckaa
