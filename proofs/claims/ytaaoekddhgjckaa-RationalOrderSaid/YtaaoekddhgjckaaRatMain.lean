/- Contracts of the exported functions of layer 7. -/
import Derived.Test.YtaaoekddhgjckaaRatMath
import Derived.StillTailTactics
namespace Go.Proofs.Ytaaoekddhgjckaa
open Go.ChangeShapes Go.WideShapes Go.ChangeAt Go.RowKit

def addGood (an ad bn bd : Int) : Prop := Valid an ad ∧ Valid bn bd ∧ Fits (an * bd + bn * ad) (ad * bd)
instance (an ad bn bd : Int) : Decidable (addGood an ad bn bd) := by unfold addGood; infer_instance
def addN (an ad bn bd : Int) : Int := if addGood an ad bn bd then redN (an * bd + bn * ad) (ad * bd) else 0
def addD (an ad bn bd : Int) : Int := if addGood an ad bn bd then redD (an * bd + bn * ad) (ad * bd) else 0
def addE (an ad bn bd : Int) : Int := if addGood an ad bn bd then 0 else 70
theorem addcalc_any (an ad bn bd : Int) (p q : Nat) (w : World)
    (hp0 : w.cell? ⟨p, 0, none⟩ = some (.int .i64 an)) (hp1 : w.cell? ⟨p, 1, none⟩ = some (.int .i64 ad)) (hq0 : w.cell? ⟨q, 0, none⟩ = some (.int .i64 bn)) (hq1 : w.cell? ⟨q, 1, none⟩ = some (.int .i64 bd)) :
    Calls Try.prog 32 #[.agg #[.int .i64 an, .int .i64 ad], .agg #[.int .i64 bn, .int .i64 bd], .func (.func 33) #[] #[.pointer (some ⟨p, 0, none⟩), .pointer (some ⟨q, 0, none⟩)]] w fun e w' => e = .returned (.tuple #[.agg #[.int .i64 (addN an ad bn bd), .int .i64 (addD an ad bn bd)], .int .i64 (addE an ad bn bd)]) ∧ Below w.heap.size w w' := by
  by_cases hv : Valid an ad ∧ Valid bn bd
  · have hd := (addbd hv.1 hv.2).1
    by_cases hf : Fits (an * bd + bn * ad) (ad * bd)
    · have g : addGood an ad bn bd := ⟨hv.1, hv.2, hf⟩
      simp only [addN, addD, addE, if_pos g]
      exact addcalc_ok an ad bn bd p q w hv.1 hv.2 (ok_yes ((fits_iff hd).2 hf)) hp0 hp1 hq0 hq1
    · have g : ¬ addGood an ad bn bd := fun k => hf k.2.2
      simp only [addN, addD, addE, if_neg g]
      exact addcalc_no an ad bn bd p q w hv.1 hv.2 (ok_no (fun k => hf ((fits_iff hd).1 k))) hp0 hp1 hq0 hq1
  · have g : ¬ addGood an ad bn bd := fun k => hv ⟨k.1, k.2.1⟩
    simp only [addN, addD, addE, if_neg g]
    exact calc_bad an ad bn bd _ w hv

set_option maxHeartbeats 1000000 in
theorem add_any (an ad bn bd : Int) (w : World) :
    Calls Try.prog 15 #[.agg #[.int .i64 an, .int .i64 ad], .agg #[.int .i64 bn, .int .i64 bd]] w fun e w' => e = .returned (.tuple #[.agg #[.int .i64 (addN an ad bn bd), .int .i64 (addD an ad bn bd)], .int .i64 (addE an ad bn bd)]) ∧ Below w.heap.size w w' := by
  go_enter Try.func15, Try.ntmps15
  go_wp2_with fail
  refine (addcalc_any _ _ _ _ _ _ _ ?_ ?_ ?_ ?_).mono ?_
  · rw [World.cell?_alloc_past _ _ _ (by simp; omega), World.cell?_alloc_past _ _ _ (by simp), World.cell?_alloc_at _ _ _ _ rfl]; rfl
  · rw [World.cell?_alloc_past _ _ _ (by simp; omega), World.cell?_alloc_past _ _ _ (by simp), World.cell?_alloc_at _ _ _ _ rfl]; rfl
  · rw [World.cell?_alloc_past _ _ _ (by simp), World.cell?_alloc_at _ _ _ _ (by simp)]; rfl
  · rw [World.cell?_alloc_past _ _ _ (by simp), World.cell?_alloc_at _ _ _ _ (by simp)]; rfl
  rintro e w1 ⟨rfl, hb1⟩
  have k0 := blk_below (blk_new _ _) hb1 (by simp)
  rw [World.size_alloc, World.size_alloc] at k0
  have B := below_after (by go_grown : Below w.heap.size w (((w.alloc (.cells #[.int .i64 an, .int .i64 ad] 23)).alloc (.cells #[.int .i64 bn, .int .i64 bd] 23)).alloc (.cells #[.int .i64 0, .int .i64 0] 23))) hb1 (by simp; omega)
  have c0 := blk_cell k0 0; have c1 := blk_cell k0 1; have f0 := blk_free k0 0; have f1 := blk_free k0 1
  simp at c0 c1
  clear k0 hb1
  go_wp2
  exact bodyPost_ret (v := .tuple #[.agg #[.int .i64 (addN an ad bn bd), .int .i64 (addD an ad bn bd)], .int .i64 (addE an ad bn bd)]) (by simp [results, Try.results15, go_sem, c0, c1]) rfl ⟨rfl, by go_grown⟩

def mulGood (an ad bn bd : Int) : Prop := Valid an ad ∧ Valid bn bd ∧ Fits (an * bn) (ad * bd)
instance (an ad bn bd : Int) : Decidable (mulGood an ad bn bd) := by unfold mulGood; infer_instance
def mulN (an ad bn bd : Int) : Int := if mulGood an ad bn bd then redN (an * bn) (ad * bd) else 0
def mulD (an ad bn bd : Int) : Int := if mulGood an ad bn bd then redD (an * bn) (ad * bd) else 0
def mulE (an ad bn bd : Int) : Int := if mulGood an ad bn bd then 0 else 70
theorem mulcalc_any (an ad bn bd : Int) (p q : Nat) (w : World)
    (hp0 : w.cell? ⟨p, 0, none⟩ = some (.int .i64 an)) (hp1 : w.cell? ⟨p, 1, none⟩ = some (.int .i64 ad)) (hq0 : w.cell? ⟨q, 0, none⟩ = some (.int .i64 bn)) (hq1 : w.cell? ⟨q, 1, none⟩ = some (.int .i64 bd)) :
    Calls Try.prog 32 #[.agg #[.int .i64 an, .int .i64 ad], .agg #[.int .i64 bn, .int .i64 bd], .func (.func 34) #[] #[.pointer (some ⟨p, 0, none⟩), .pointer (some ⟨q, 0, none⟩)]] w fun e w' => e = .returned (.tuple #[.agg #[.int .i64 (mulN an ad bn bd), .int .i64 (mulD an ad bn bd)], .int .i64 (mulE an ad bn bd)]) ∧ Below w.heap.size w w' := by
  by_cases hv : Valid an ad ∧ Valid bn bd
  · have hd := (mulbd hv.1 hv.2).1
    by_cases hf : Fits (an * bn) (ad * bd)
    · have g : mulGood an ad bn bd := ⟨hv.1, hv.2, hf⟩
      simp only [mulN, mulD, mulE, if_pos g]
      exact mulcalc_ok an ad bn bd p q w hv.1 hv.2 (ok_yes ((fits_iff hd).2 hf)) hp0 hp1 hq0 hq1
    · have g : ¬ mulGood an ad bn bd := fun k => hf k.2.2
      simp only [mulN, mulD, mulE, if_neg g]
      exact mulcalc_no an ad bn bd p q w hv.1 hv.2 (ok_no (fun k => hf ((fits_iff hd).1 k))) hp0 hp1 hq0 hq1
  · have g : ¬ mulGood an ad bn bd := fun k => hv ⟨k.1, k.2.1⟩
    simp only [mulN, mulD, mulE, if_neg g]
    exact calc_bad an ad bn bd _ w hv

set_option maxHeartbeats 1000000 in
theorem mul_any (an ad bn bd : Int) (w : World) :
    Calls Try.prog 17 #[.agg #[.int .i64 an, .int .i64 ad], .agg #[.int .i64 bn, .int .i64 bd]] w fun e w' => e = .returned (.tuple #[.agg #[.int .i64 (mulN an ad bn bd), .int .i64 (mulD an ad bn bd)], .int .i64 (mulE an ad bn bd)]) ∧ Below w.heap.size w w' := by
  go_enter Try.func17, Try.ntmps17
  go_wp2_with fail
  refine (mulcalc_any _ _ _ _ _ _ _ ?_ ?_ ?_ ?_).mono ?_
  · rw [World.cell?_alloc_past _ _ _ (by simp; omega), World.cell?_alloc_past _ _ _ (by simp), World.cell?_alloc_at _ _ _ _ rfl]; rfl
  · rw [World.cell?_alloc_past _ _ _ (by simp; omega), World.cell?_alloc_past _ _ _ (by simp), World.cell?_alloc_at _ _ _ _ rfl]; rfl
  · rw [World.cell?_alloc_past _ _ _ (by simp), World.cell?_alloc_at _ _ _ _ (by simp)]; rfl
  · rw [World.cell?_alloc_past _ _ _ (by simp), World.cell?_alloc_at _ _ _ _ (by simp)]; rfl
  rintro e w1 ⟨rfl, hb1⟩
  have k0 := blk_below (blk_new _ _) hb1 (by simp)
  rw [World.size_alloc, World.size_alloc] at k0
  have B := below_after (by go_grown : Below w.heap.size w (((w.alloc (.cells #[.int .i64 an, .int .i64 ad] 23)).alloc (.cells #[.int .i64 bn, .int .i64 bd] 23)).alloc (.cells #[.int .i64 0, .int .i64 0] 23))) hb1 (by simp; omega)
  have c0 := blk_cell k0 0; have c1 := blk_cell k0 1; have f0 := blk_free k0 0; have f1 := blk_free k0 1
  simp at c0 c1
  clear k0 hb1
  go_wp2
  exact bodyPost_ret (v := .tuple #[.agg #[.int .i64 (mulN an ad bn bd), .int .i64 (mulD an ad bn bd)], .int .i64 (mulE an ad bn bd)]) (by simp [results, Try.results17, go_sem, c0, c1]) rfl ⟨rfl, by go_grown⟩

theorem quiet_add_same {P : Program} {f : FuncId} {args : Array Value} {w : World} {a n : Nat} {v : Value}
    (h : Calls P f args (w.drewN (a + n)) fun e w' => e = .returned v ∧ w' = w.drewN (a + n)) :
    Calls P f args (w.drewN (a + n)) fun e w'' => e = .returned v ∧ ∃ m, w'' = w.drewN (a + m) :=
  h.mono fun _ _ ⟨he, hm⟩ => ⟨he, n, hm⟩
def makeArg (n d : Int) : Prop := d ≠ 0 ∧ -4611686018427387904 ≤ d ∧ d ≤ 4611686018427387904 ∧ -4611686018427387904 ≤ n ∧ n ≤ 4611686018427387904
instance (n d : Int) : Decidable (makeArg n d) := by unfold makeArg; infer_instance
def makeGood (n d : Int) : Prop := makeArg n d ∧ Fits n d
instance (n d : Int) : Decidable (makeGood n d) := by unfold makeGood; infer_instance
def makeN (n d : Int) : Int := if makeGood n d then redN n d else 0
def makeD (n d : Int) : Int := if makeGood n d then redD n d else 0
def makeE (n d : Int) : Int := if makeGood n d then 0 else if makeArg n d then 70 else 1
theorem make_any (n d : Int) (w : World) :
    Calls Try.prog 11 #[.int .i64 n, .int .i64 d] w fun e w' => e = .returned (.tuple #[.agg #[.int .i64 (makeN n d), .int .i64 (makeD n d)], .int .i64 (makeE n d)]) ∧ Below w.heap.size w w' := by
  by_cases ha : makeArg n d
  · obtain ⟨hd, d1, d2, n1, n2⟩ := id ha
    by_cases hf : Fits n d
    · have g : makeGood n d := ⟨ha, hf⟩
      simp only [makeN, makeD, makeE, if_pos g]
      exact make_ok n d w hd d1 d2 n1 n2 (ok_yes ((fits_iff hd).2 hf))
    · have g : ¬ makeGood n d := fun k => hf k.2
      simp only [makeN, makeD, makeE, if_neg g, if_pos ha]
      exact make_no n d w hd d1 d2 n1 n2 (ok_no (fun k => hf ((fits_iff hd).1 k)))
  · have g : ¬ makeGood n d := fun k => ha k.1
    simp only [makeN, makeD, makeE, if_neg g, if_neg ha]
    exact make_bad n d w ha

theorem tdiv_neg' {a b : Int} (hb : 0 < b) (h : a.tmod b < 0) : a.tdiv b - 1 = a / b := by
  have e := Int.mul_tdiv_add_tmod a b
  have l : -b < a.tmod b := Int.lt_tmod_of_pos a hb
  have := Int.ediv_emod_unique (a := a) (b := b) (r := a.tmod b + b) (q := a.tdiv b - 1) hb
  exact ((this.2 ⟨by rw [Int.mul_sub]; omega, by omega, by omega⟩).1).symm
theorem tdiv_pos' {a b : Int} (hb : 0 < b) (h : 0 ≤ a.tmod b) : a.tdiv b = a / b := by
  have e := Int.mul_tdiv_add_tmod a b
  have l : a.tmod b < b := Int.tmod_lt_of_pos a hb
  have := Int.ediv_emod_unique (a := a) (b := b) (r := a.tmod b) (q := a.tdiv b) hb
  exact ((this.2 ⟨by omega, by omega, by omega⟩).1).symm
theorem ediv_in {a b lo hi : Int} (hb : 0 < b) (h1 : lo ≤ a) (h2 : a ≤ hi) (l0 : lo ≤ 0) (h0 : 0 ≤ hi) : lo ≤ a / b ∧ a / b ≤ hi := by
  constructor
  · rw [Int.le_ediv_iff_mul_le hb]
    have : lo * b ≤ lo * 1 := Int.mul_le_mul_of_nonpos_left l0 (by omega)
    omega
  · by_cases ha : 0 ≤ a
    · have := Int.ediv_le_self b ha
      omega
    · have : a / b < 0 := Int.ediv_neg_of_neg_of_pos (by omega) hb
      omega
theorem div_any (a b : Int) (w : World) (hb : 0 < b) (hb2 : b ≤ 9223372036854775807) (ha1 : -9223372036854775808 ≤ a) (ha2 : a ≤ 9223372036854775807) :
    Calls Try.prog 37 #[.int .i64 a, .int .i64 b] w fun e w' => e = .returned (.int .i64 (a / b)) ∧ w = w' := by
  have hq := ediv_in hb ha1 ha2 (by omega) (by omega)
  go_enter Try.func37, Try.ntmps37
  go_wp2
  · have h : a.tmod b < 0 := by assumption
    have e := tdiv_neg' hb h
    go_ret
    exact ⟨ret_int (by rw [IntWalk.wrap64_in _ (by omega)]; exact e), rfl⟩
  · have h : 0 ≤ a.tmod b := by assumption
    have e := tdiv_pos' hb h
    go_ret
    exact ⟨ret_int e, rfl⟩

def floorV (n d : Int) : Int := if Valid n d then n / d else 0
set_option maxHeartbeats 1000000 in
theorem floor_any (n d : Int) (w : World) :
    Calls Try.prog 23 #[.agg #[.int .i64 n, .int .i64 d]] w fun e w' => e = .returned (.tuple #[.int .i64 (floorV n d), .int .i64 (ratOk n d)]) ∧ Below w.heap.size w w' := by
  by_cases hv : Valid n d
  · have e := ok_yes hv
    simp only [floorV, if_pos hv]
    rw [e]
    obtain ⟨h1, h2, h3, h4, _⟩ := hv
    go_enter Try.func23, Try.ntmps23
    go_wp2_with fail
    refine (check_any _ _ _).mono ?_; rintro e1 w1 ⟨rfl, hb1⟩; rw [e]
    have k0 := blk_below (blk_new _ _) hb1 (by simp)
    have B := below_after (by go_grown : Below w.heap.size w (w.alloc (.cells #[.int .i64 n, .int .i64 d] 23))) hb1 (by simp)
    have c0 := blk_cell k0 0; have c1 := blk_cell k0 1
    simp at c0 c1
    clear k0 hb1 e
    go_wp2_with (go_at_call 37; refine (div_any _ _ _ (by omega) (by omega) (by omega) (by omega)).mono ?_; rintro e w' ⟨rfl, rfl⟩)
    go_ret2
    exact ⟨rfl, B⟩
  · have e := ok_no hv
    simp only [floorV, if_neg hv]
    rw [e]
    clear hv
    go_enter Try.func23, Try.ntmps23
    go_wp2_with fail
    refine (check_any _ _ _).mono ?_; rintro e1 w1 ⟨rfl, hb1⟩; rw [e]
    have B := below_after (by go_grown : Below w.heap.size w (w.alloc (.cells #[.int .i64 n, .int .i64 d] 23))) hb1 (by simp)
    clear hb1 e
    go_wp2
    go_ret2
    exact ⟨rfl, B⟩

def lessV (an ad bn bd : Int) : Bool := decide (Valid an ad ∧ Valid bn bd ∧ an * bd < bn * ad)
def lessE (an ad bn bd : Int) : Int := if Valid an ad ∧ Valid bn bd then 0 else 70
theorem sign_same (v : Int) (w : World) :
    Calls Try.prog 35 #[.int .i64 v] w fun e w' => e = .returned (.int .i64 (sgn v)) ∧ w' = w :=
  (sign_any v w).mono fun _ _ h => ⟨h.1, h.2.symm⟩
theorem less_sign {an ad bn bd : Int} (ha : 1 ≤ ad) (hb : 1 ≤ bd) (h : sgn an ≠ sgn bn) : decide (sgn an < sgn bn) = decide (an * bd < bn * ad) := by
  have k : ∀ x y : Int, 1 ≤ y → (0 < x → 0 < x * y) ∧ (x < 0 → x * y < 0) ∧ (x = 0 → x * y = 0) := fun x y hy =>
    ⟨fun hx => Int.mul_pos hx (by omega), fun hx => Int.mul_neg_of_neg_of_pos hx (by omega), fun hx => by rw [hx, Int.zero_mul]⟩
  obtain ⟨a1, a2, a3⟩ := k an bd hb
  obtain ⟨b1, b2, b3⟩ := k bn ad ha
  have e : (sgn an < sgn bn) ↔ (an * bd < bn * ad) := by
    unfold sgn at h ⊢
    rcases Int.lt_trichotomy an 0 with p | p | p <;> rcases Int.lt_trichotomy bn 0 with q | q | q <;> (try have := a1 p) <;> (try have := a2 p) <;> (try have := a3 p) <;> (try have := b1 q) <;> (try have := b2 q) <;> (try have := b3 q) <;> (repeat' split) <;> (repeat' split at h) <;> omega
  rw [decide_eq_decide]; exact e

set_option maxHeartbeats 1000000 in
theorem less_any (an ad bn bd : Int) (w : World) :
    Calls Try.prog 21 #[.agg #[.int .i64 an, .int .i64 ad], .agg #[.int .i64 bn, .int .i64 bd]] w fun e w' => e = .returned (.tuple #[.bool (lessV an ad bn bd), .int .i64 (lessE an ad bn bd)]) ∧ Below w.heap.size w w' := by
  by_cases hv : Valid an ad ∧ Valid bn bd
  · have hv2 := valid_t hv.1 hv.2
    have el : lessV an ad bn bd = decide (an * bd < bn * ad) := by unfold lessV; simp [hv.1, hv.2]
    have ee : lessE an ad bn bd = 0 := if_pos hv
    rw [ee]
    obtain ⟨⟨a1, a2, a3, a4, _⟩, b1, b2, b3, b4, _⟩ := hv
    have m1 := pr_bd a3 a4 b1 b2
    have m2 := pr_bd b3 b4 a1 a2
    have EL := Lib.hid el; clear el ee
    by_cases hs : sgn an = sgn bn
    · have hs1 : (sgn an != sgn bn) = false := by simpa using hs
      clear hs
      go_enter Try.func21, Try.ntmps21
      go_wp2_with fail
      refine (valid_any _ _ _ _ _).mono ?_; rintro e1 w1 ⟨rfl, hb1⟩; rw [hv2]
      have k0 := blk_below (blk_alloc (blk_new _ _) _) hb1 (by simp; omega)
      have k1 := blk_below (blk_new _ _) hb1 (by simp)
      rw [World.size_alloc] at k1
      have B := below_after (by go_grown : Below w.heap.size w ((w.alloc (.cells #[.int .i64 an, .int .i64 ad] 23)).alloc (.cells #[.int .i64 bn, .int .i64 bd] 23))) hb1 (by simp; omega)
      have c0 := blk_cell k0 0; have c1 := blk_cell k0 1; have d0 := blk_cell k1 0; have d1 := blk_cell k1 1
      simp at c0 c1 d0 d1
      clear k0 k1 hb1 hv2
      go_wp2_with fail
      go_quiet ((go_at_call 35; exact Calls.quiet_of_same (sign_same _ _)))
      go_wp2
      go_ret2
      exact ⟨by rw [EL.out]; rfl, below_drewN B _⟩
    · have hs1 : (sgn an != sgn bn) = true := by simpa using hs
      have HLS := Lib.hid (less_sign a1 b1 hs); clear hs
      go_enter Try.func21, Try.ntmps21
      go_wp2_with fail
      refine (valid_any _ _ _ _ _).mono ?_; rintro e1 w1 ⟨rfl, hb1⟩; rw [hv2]
      have k0 := blk_below (blk_alloc (blk_new _ _) _) hb1 (by simp; omega)
      have k1 := blk_below (blk_new _ _) hb1 (by simp)
      rw [World.size_alloc] at k1
      have B := below_after (by go_grown : Below w.heap.size w ((w.alloc (.cells #[.int .i64 an, .int .i64 ad] 23)).alloc (.cells #[.int .i64 bn, .int .i64 bd] 23))) hb1 (by simp; omega)
      have c0 := blk_cell k0 0; have c1 := blk_cell k0 1; have d0 := blk_cell k1 0; have d1 := blk_cell k1 1
      simp at c0 c1 d0 d1
      clear k0 k1 hb1 hv2
      go_wp2_with fail
      go_quiet ((go_at_call 35; exact Calls.quiet_of_same (sign_same _ _)))
      go_wp2
      go_quiet ((go_at_call 35; exact quiet_add_same (sign_same _ _)))
      go_wp2
      go_ret2
      exact ⟨by rw [EL.out, ← HLS.out]; rfl, below_drewN (below_drewN B _) _⟩
  · have hv2 := valid_f hv
    have el : lessV an ad bn bd = false := by unfold lessV; simp; intro h1 h2; exact absurd ⟨h1, h2⟩ hv
    have ee : lessE an ad bn bd = 70 := if_neg hv
    rw [ee, el]
    clear ee el hv
    go_enter Try.func21, Try.ntmps21
    go_wp2_with fail
    refine (valid_any _ _ _ _ _).mono ?_; rintro e1 w1 ⟨rfl, hb1⟩; rw [hv2]
    have B := below_after (by go_grown : Below w.heap.size w ((w.alloc (.cells #[.int .i64 an, .int .i64 ad] 23)).alloc (.cells #[.int .i64 bn, .int .i64 bd] 23))) hb1 (by simp; omega)
    clear hb1 hv2
    go_wp2
    go_ret2
    exact ⟨rfl, B⟩

def invGood (n d : Int) : Prop := Valid n d ∧ n ≠ 0
instance (n d : Int) : Decidable (invGood n d) := by unfold invGood; infer_instance
def invN (n d : Int) : Int := if invGood n d then d * sgn n else 0
def invD (n d : Int) : Int := if invGood n d then n * sgn n else 0
def invE (n d : Int) : Int := if invGood n d then 0 else if Valid n d then 1 else 70

set_option maxHeartbeats 1000000 in
theorem inv_any (n d : Int) (w : World) :
    Calls Try.prog 19 #[.agg #[.int .i64 n, .int .i64 d]] w fun e w' => e = .returned (.tuple #[.agg #[.int .i64 (invN n d), .int .i64 (invD n d)], .int .i64 (invE n d)]) ∧ Below w.heap.size w w' := by
  by_cases hv : Valid n d
  · have e := ok_yes hv
    by_cases hn : n = 0
    · have g : ¬ invGood n d := fun k => k.2 hn
      simp only [invN, invD, invE, if_neg g, if_pos hv]
      subst hn
      clear g
      go_enter Try.func19, Try.ntmps19
      go_wp2_with fail
      refine (check_any _ _ _).mono ?_; rintro e1 w1 ⟨rfl, hb1⟩; rw [e]
      have k0 := blk_below (blk_alloc (blk_new _ _) _) hb1 (by simp; omega)
      have k1 := blk_below (blk_new _ _) hb1 (by simp)
      rw [World.size_alloc] at k1
      have B := below_after (by go_grown : Below w.heap.size w ((w.alloc (.cells #[.int .i64 0, .int .i64 d] 23)).alloc (.cells #[.int .i64 0, .int .i64 0] 23))) hb1 (by simp; omega)
      have c0 := blk_cell k0 0; have c1 := blk_cell k0 1; have d0 := blk_cell k1 0; have d1 := blk_cell k1 1; have f0 := blk_free k1 0; have f1 := blk_free k1 1
      simp at c0 c1 d0 d1
      clear k0 k1 hb1 e hv
      go_wp2
      exact bodyPost_ret (v := .tuple #[.agg #[.int .i64 0, .int .i64 0], .int .i64 1]) (by simp [results, Try.results19, go_sem, d0, d1]) rfl ⟨rfl, by go_grown⟩
    · have g : invGood n d := ⟨hv, hn⟩
      simp only [invN, invD, invE, if_pos g]
      have hn' : (n == 0) = false := by simpa using hn
      obtain ⟨h1, h2, h3, h4, _⟩ := hv
      have s1 : -1 ≤ sgn n := by unfold sgn; (repeat' split) <;> omega
      have s2 : sgn n ≤ 1 := by unfold sgn; (repeat' split) <;> omega
      obtain ⟨p1, p2, p3, p4⟩ : -2147483647 ≤ d * sgn n ∧ d * sgn n ≤ 2147483647 ∧ -2147483647 ≤ n * sgn n ∧ n * sgn n ≤ 2147483647 := by
        unfold sgn; (repeat' split) <;> omega
      clear hn g
      go_enter Try.func19, Try.ntmps19
      go_wp2_with fail
      refine (check_any _ _ _).mono ?_; rintro e1 w1 ⟨rfl, hb1⟩; rw [e]
      have k0 := blk_below (blk_alloc (blk_new _ _) _) hb1 (by simp; omega)
      have k1 := blk_below (blk_new _ _) hb1 (by simp)
      rw [World.size_alloc] at k1
      have B := below_after (by go_grown : Below w.heap.size w ((w.alloc (.cells #[.int .i64 n, .int .i64 d] 23)).alloc (.cells #[.int .i64 0, .int .i64 0] 23))) hb1 (by simp; omega)
      have c0 := blk_cell k0 0; have c1 := blk_cell k0 1; have d0 := blk_cell k1 0; have d1 := blk_cell k1 1; have f0 := blk_free k1 0; have f1 := blk_free k1 1
      simp at c0 c1 d0 d1
      clear k0 k1 hb1 e
      go_wp2_with fail
      go_still_tail 13, (by kernel_rfl)
      still_call (sign_same _ _)
      repeat still_step
      still_call (sign_same _ _)
      repeat still_step
      refine wpStill_nil ?_
      go_wp2
      exact bodyPost_ret (v := .tuple #[.agg #[.int .i64 (d * sgn n), .int .i64 (n * sgn n)], .int .i64 0]) (by simp [results, Try.results19, go_sem, d0, d1]) rfl ⟨rfl, by go_grown⟩
  · have e := ok_no hv
    have g : ¬ invGood n d := fun k => hv k.1
    simp only [invN, invD, invE, if_neg g, if_neg hv]
    clear g hv
    go_enter Try.func19, Try.ntmps19
    go_wp2_with fail
    refine (check_any _ _ _).mono ?_; rintro e1 w1 ⟨rfl, hb1⟩; rw [e]
    have k1 := blk_below (blk_new _ _) hb1 (by simp)
    rw [World.size_alloc] at k1
    have B := below_after (by go_grown : Below w.heap.size w ((w.alloc (.cells #[.int .i64 n, .int .i64 d] 23)).alloc (.cells #[.int .i64 0, .int .i64 0] 23))) hb1 (by simp; omega)
    have d0 := blk_cell k1 0; have d1 := blk_cell k1 1; have f0 := blk_free k1 0; have f1 := blk_free k1 1
    simp at d0 d1
    clear k1 hb1 e
    go_wp2
    exact bodyPost_ret (v := .tuple #[.agg #[.int .i64 0, .int .i64 0], .int .i64 70]) (by simp [results, Try.results19, go_sem, d0, d1]) rfl ⟨rfl, by go_grown⟩
end Go.Proofs.Ytaaoekddhgjckaa
