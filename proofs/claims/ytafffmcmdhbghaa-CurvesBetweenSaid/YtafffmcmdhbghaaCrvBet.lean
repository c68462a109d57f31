/- Between two knots (layer 11). -/
import Derived.Test.YtafffmcmdhbghaaCrvSane
import Derived.Test.YtafffmcmdhbghaaHeld
import Derived.Test.YtafffmcmdhbghaaCrvLawF
namespace Go.Proofs.Ytafffmcmdhbghaa
open Go.ChangeShapes Go.WideShapes Go.ChangeAt Go.RowKit Go.Shelf

theorem frac_le {p q p' q' : Int} (hq : 0 < q) (hq' : 0 < q') (h : p * q' ≤ p' * q) : p / q ≤ p' / q' := by
  rw [Int.le_ediv_iff_mul_le hq']
  have h1 : p / q * q ≤ p := Int.ediv_mul_le p (by omega)
  have h2 : p / q * q * q' ≤ p * q' := Int.mul_le_mul_of_nonneg_right h1 (by omega)
  have h3 : p / q * q' * q ≤ p' * q := by
    rw [Int.mul_assoc, Int.mul_comm q' q, ← Int.mul_assoc]; omega
  exact Int.le_of_mul_le_mul_right h3 hq
theorem bend_form {A B d n wa wb : Int} (hS : 0 < wa * (d - n) + wb * n) :
    (A * (wa * (d - n)) + B * (wb * n)) / (wa * (d - n) + wb * n) = A + ((B - A) * wb * n) / (wa * (d - n) + wb * n) := by
  have e : A * (wa * (d - n)) + B * (wb * n) = (B - A) * wb * n + A * (wa * (d - n) + wb * n) := by
    rw [Int.mul_add, Int.sub_mul, Int.sub_mul, Int.mul_assoc B, Int.mul_assoc A wb n]; omega
  rw [e, Int.add_mul_ediv_right _ _ (by omega)]; omega
theorem bend_pos {d n wa wb : Int} (h1 : 1 ≤ d) (h3 : 0 ≤ n) (h4 : n ≤ d) (k1 : 1 ≤ wa) (k2 : 1 ≤ wb) : 0 < wa * (d - n) + wb * n ∧ 0 ≤ wa * (d - n) ∧ 0 ≤ wb * n := by
  have m1 : 1 * (d - n) ≤ wa * (d - n) := Int.mul_le_mul_of_nonneg_right k1 (by omega)
  have m2 : 1 * n ≤ wb * n := Int.mul_le_mul_of_nonneg_right k2 (by omega)
  omega
theorem cross {C d n wa wb : Int} : (C * n) * (wa * (d - (n - 1)) + wb * (n - 1)) = (C * (n - 1)) * (wa * (d - n) + wb * n) + C * (wa * d) := by grind
theorem bend_up {A B d n wa wb : Int} (h1 : 1 ≤ d) (h3 : 1 ≤ n) (h4 : n ≤ d) (k1 : 1 ≤ wa) (k2 : 1 ≤ wb) (hab : A ≤ B) :
    ((B - A) * wb * (n - 1)) / (wa * (d - (n - 1)) + wb * (n - 1)) ≤ ((B - A) * wb * n) / (wa * (d - n) + wb * n) := by
  have p1 := (bend_pos h1 (by omega) h4 k1 k2).1
  have p2 := (bend_pos (n := n - 1) h1 (by omega) (by omega) k1 k2).1
  refine frac_le p2 p1 ?_
  rw [cross]
  have : 0 ≤ (B - A) * wb * (wa * d) := Int.mul_nonneg (Int.mul_nonneg (by omega) (by omega)) (Int.mul_nonneg (by omega) (by omega))
  omega
theorem bend_down {A B d n wa wb : Int} (h1 : 1 ≤ d) (h3 : 1 ≤ n) (h4 : n ≤ d) (k1 : 1 ≤ wa) (k2 : 1 ≤ wb) (hab : B ≤ A) :
    ((B - A) * wb * n) / (wa * (d - n) + wb * n) ≤ ((B - A) * wb * (n - 1)) / (wa * (d - (n - 1)) + wb * (n - 1)) := by
  have p1 := (bend_pos h1 (by omega) h4 k1 k2).1
  have p2 := (bend_pos (n := n - 1) h1 (by omega) (by omega) k1 k2).1
  refine frac_le p1 p2 ?_
  rw [cross]
  have : (B - A) * wb * (wa * d) ≤ 0 := Int.mul_nonpos_of_nonpos_of_nonneg (Int.mul_nonpos_of_nonpos_of_nonneg (by omega) (by omega)) (Int.mul_nonneg (by omega) (by omega))
  omega
theorem bend_in {A B d n wa wb : Int} (h1 : 1 ≤ d) (h3 : 0 ≤ n) (h4 : n ≤ d) (k1 : 1 ≤ wa) (k2 : 1 ≤ wb) :
    min A B ≤ (A * (wa * (d - n)) + B * (wb * n)) / (wa * (d - n) + wb * n) ∧ (A * (wa * (d - n)) + B * (wb * n)) / (wa * (d - n) + wb * n) ≤ max A B := by
  obtain ⟨p, q, r⟩ := bend_pos h1 h3 h4 k1 k2
  generalize wa * (d - n) = x at *
  generalize wb * n = y at *
  constructor
  · rw [Int.le_ediv_iff_mul_le p, Int.mul_add]
    have := Int.mul_le_mul_of_nonneg_right (Int.min_le_left A B) q
    have := Int.mul_le_mul_of_nonneg_right (Int.min_le_right A B) r
    omega
  · have : A * x + B * y < (max A B + 1) * (x + y) := by
      rw [Int.add_mul, Int.mul_add]
      have := Int.mul_le_mul_of_nonneg_right (Int.le_max_left A B) q
      have := Int.mul_le_mul_of_nonneg_right (Int.le_max_right A B) r
      omega
    have := Int.ediv_lt_of_lt_mul p this
    omega

/-- Going up: later is not lower. -/
theorem bend_ups {A B d wa wb : Int} (h1 : 1 ≤ d) (k1 : 1 ≤ wa) (k2 : 1 ≤ wb) (hab : A ≤ B) (n : Int) (h0 : 0 ≤ n) : ∀ e : Nat, n + e ≤ d →
    ((B - A) * wb * n) / (wa * (d - n) + wb * n) ≤ ((B - A) * wb * (n + e)) / (wa * (d - (n + e)) + wb * (n + e)) := by
  intro e
  induction e with
  | zero => intro _; rw [show n + ((0 : Nat) : Int) = n by omega]; omega
  | succ e ih =>
    intro he
    have a1 := ih (by omega)
    have a2 := bend_up (A := A) (B := B) (n := n + ((e + 1 : Nat) : Int)) h1 (by omega) he k1 k2 hab
    rw [show n + ((e + 1 : Nat) : Int) - 1 = n + (e : Int) by omega] at a2
    omega
theorem bend_downs {A B d wa wb : Int} (h1 : 1 ≤ d) (k1 : 1 ≤ wa) (k2 : 1 ≤ wb) (hab : B ≤ A) (n : Int) (h0 : 0 ≤ n) : ∀ e : Nat, n + e ≤ d →
    ((B - A) * wb * (n + e)) / (wa * (d - (n + e)) + wb * (n + e)) ≤ ((B - A) * wb * n) / (wa * (d - n) + wb * n) := by
  intro e
  induction e with
  | zero => intro _; rw [show n + ((0 : Nat) : Int) = n by omega]; omega
  | succ e ih =>
    intro he
    have a1 := ih (by omega)
    have a2 := bend_down (A := A) (B := B) (n := n + ((e + 1 : Nat) : Int)) h1 (by omega) he k1 k2 hab
    rw [show n + ((e + 1 : Nat) : Int) - 1 = n + (e : Int) by omega] at a2
    omega
/-- Two positions between two knots. -/
theorem seg_between {x y : Kt} (hx : okK 1099511627776 x) (hy : okK 1099511627776 y) (hd : x.1 < y.1) (hs : x.2.2.1 ≠ 1) {p q : Int} (h0 : x.1 ≤ p) (h1 : p ≤ q) (h2 : q ≤ y.1) :
    (x.2.1 ≤ y.2.1 → x.2.1 ≤ segV x y p ∧ segV x y p ≤ segV x y q ∧ segV x y q ≤ y.2.1) ∧ (y.2.1 ≤ x.2.1 → x.2.1 ≥ segV x y p ∧ segV x y p ≥ segV x y q ∧ segV x y q ≥ y.2.1) := by
  have cx : clip x.2.1 = x.2.1 := by unfold clip; have := hx.2.2.1; have := hx.2.2.2.1; omega
  have cy : clip y.2.1 = y.2.1 := by unfold clip; have := hy.2.2.1; have := hy.2.2.2.1; omega
  obtain ⟨d, hD⟩ : ∃ d, d = y.1 - x.1 := ⟨_, rfl⟩
  obtain ⟨m, hm⟩ : ∃ m, m = p - x.1 := ⟨_, rfl⟩
  obtain ⟨n, hn⟩ : ∃ n, n = q - x.1 := ⟨_, rfl⟩
  unfold segV
  rw [if_neg hs, if_neg hs]
  by_cases s2 : x.2.2.1 = 2
  · rw [if_pos s2, if_pos s2]
    unfold lineV
    rw [cx, cy, ← hD, ← hm, ← hn]
    generalize x.2.1 = A at *
    generalize y.2.1 = B at *
    constructor
    · intro hab
      have e1 : 0 ≤ (B - A) * m := Int.mul_nonneg (by omega) (by omega)
      have e2 : (B - A) * m ≤ (B - A) * n := Int.mul_le_mul_of_nonneg_left (by omega) (by omega)
      have e3 : (B - A) * n ≤ (B - A) * d := Int.mul_le_mul_of_nonneg_left (by omega) (by omega)
      have g1 := Int.ediv_nonneg e1 (show 0 ≤ d by omega)
      have g2 := Int.ediv_le_ediv (show 0 < d by omega) e2
      have g3 := Int.ediv_le_ediv (show 0 < d by omega) e3
      rw [Int.mul_ediv_cancel _ (by omega)] at g3
      omega
    · intro hab
      have e1 : (B - A) * m ≤ (B - A) * 0 := Int.mul_le_mul_of_nonpos_left (by omega) (by omega)
      have e2 : (B - A) * n ≤ (B - A) * m := Int.mul_le_mul_of_nonpos_left (by omega) (by omega)
      have e3 : (B - A) * d ≤ (B - A) * n := Int.mul_le_mul_of_nonpos_left (by omega) (by omega)
      have g1 := Int.ediv_le_ediv (show 0 < d by omega) e1
      have g2 := Int.ediv_le_ediv (show 0 < d by omega) e2
      have g3 := Int.ediv_le_ediv (show 0 < d by omega) e3
      rw [Int.mul_ediv_cancel _ (by omega)] at g3
      rw [Int.mul_zero, Int.zero_ediv] at g1
      omega
  · rw [if_neg s2, if_neg s2]
    have hs3 : x.2.2.1 = 3 := by have := hx.2.2.2.2.1; have := hx.2.2.2.2.2.1; omega
    obtain ⟨w1, -, w3, -⟩ := hx.2.2.2.2.2.2.1 hs3
    unfold bendV
    rw [cx, cy, ← hD, ← hm, ← hn]
    generalize x.2.1 = A at *
    generalize y.2.1 = B at *
    generalize x.2.2.2.1 = wa at *
    generalize x.2.2.2.2 = wb at *
    have i1 := bend_in (A := A) (B := B) (n := m) (show 1 ≤ d by omega) (by omega) (by omega) w1 w3
    have i2 := bend_in (A := A) (B := B) (n := n) (show 1 ≤ d by omega) (by omega) (by omega) w1 w3
    have f1 := bend_form (A := A) (B := B) (bend_pos (n := m) (show 1 ≤ d by omega) (by omega) (by omega) w1 w3).1
    have f2 := bend_form (A := A) (B := B) (bend_pos (n := n) (show 1 ≤ d by omega) (by omega) (by omega) w1 w3).1
    obtain ⟨e, he⟩ : ∃ e : Nat, n = m + e := ⟨(n - m).toNat, by omega⟩
    constructor
    · intro hab
      have u := bend_ups (A := A) (B := B) (show 1 ≤ d by omega) w1 w3 hab m (by omega) e (by omega)
      rw [← he] at u
      omega
    · intro hab
      have u := bend_downs (A := A) (B := B) (show 1 ≤ d by omega) w1 w3 hab m (by omega) e (by omega)
      rw [← he] at u
      omega
/-- Where a position between two knots falls. -/
theorem val_between {l : List Kt} (h : Curve l) {i : Nat} (hi : i + 1 < l.length) {p : Int} (h0 : (nthK l i).1 ≤ p) (h1 : p < (nthK l (i + 1)).1) : valC l p = segV (nthK l i) (nthK l (i + 1)) p := by
  have inc : ∀ j, i + 1 ≤ j → j < l.length → (nthK l (i + 1)).1 ≤ (nthK l j).1 := by
    intro j
    induction j with
    | zero => intro h; omega
    | succ j ih =>
      intro hj1 hj2
      by_cases e : j + 1 = i + 1
      · rw [e]; omega
      · have a1 := ih (by omega) (by omega)
        have a2 := (h.1.2 (j + 1) hj2).2 (by omega)
        simp only [Nat.add_sub_cancel] at a2
        omega
  have key : ∀ n, i < n → n ≤ l.length → cnt l p n = i + 1 := by
    intro n
    induction n with
    | zero => intro h; omega
    | succ n ih =>
      intro hn1 hn2
      unfold cnt
      by_cases e : n = i
      · subst e; rw [if_pos h0]
      · rw [if_neg (by have := inc n (by omega) (by omega); omega)]; exact ih (by omega) (by omega)
  unfold valC valP
  rw [key _ (by omega) (Nat.le_refl _), if_neg (by omega), if_neg (by omega), if_neg (by omega), Nat.add_sub_cancel]

theorem at_knot0 {l : List Kt} (h : Curve l) {p : Nat} (hp : p < l.length) : valC l (nthK l p).1 = (nthK l p).2.1 := at_knot h hp

set_option maxRecDepth 100000 in
set_option maxHeartbeats 8000000 in
theorem curvesBetween_walk (a : Option Addr) (b off n cap : Nat) (l : List Kt) (ki ai bi : Int) (w : World) (hM : Ks w a n b off l) (hn : n ≤ 9223372036854775807) (hnc : a = none → cap = 0) (hlc : n ≤ cap) (hk : 0 ≤ ki ∧ ki ≤ 65535) (ha : 0 ≤ ai ∧ ai ≤ 4294967295) (hb' : 0 ≤ bi ∧ bi ≤ 4294967295) :
    Calls Try.prog 6 #[.slice a n cap, .int .u16 ki, .int .u32 ai, .int .u32 bi] w fun e w' => e = .returned (.bool true) ∧ Below w.heap.size w w' := by
  have hl := hM.1
  have HM := Lib.hid hM
  clear hM
  go_enter Try.func6, Try.ntmps6
  go_wp2_with fail
  refine (sane_any w).mono ?_; rintro e w1 ⟨rfl, hB⟩
  go_wp2_with fail
  refine (rfew_any a n cap w1).mono ?_; rintro e w' ⟨rfl, rfl⟩
  by_cases hf : (n : Int) ≤ 1100
  case neg =>
    rw [decide_eq_false hf]
    go_wp2
    go_ret
    exact ⟨rfl, hB⟩
  rw [decide_eq_true hf]
  by_cases hc : Curve l
  case neg =>
    go_wp2_with fail
    refine (rccheck_any a b off n cap l _ (HM.out.grown hB) hn).mono ?_; rintro e w5 ⟨rfl, hb⟩; rw [chkC_no hc]
    replace hB := below_after hB hb hB.size
    clear hb
    go_wp2
    go_ret
    exact ⟨rfl, hB⟩
  go_wp2_with fail
  refine (rccheck_any a b off n cap l _ (HM.out.grown hB) hn).mono ?_; rintro e w2 ⟨rfl, hb⟩; rw [chkC_yes hc]
  replace hB := below_after hB hb hB.size
  clear hb
  by_cases h2 : (n : Int) < 2
  · go_wp2
    go_ret
    exact ⟨rfl, hB⟩
  have HC := Lib.hid (show _ ∧ _ from ⟨hc, hB⟩)
  clear hc hB
  obtain ⟨I, hI⟩ : ∃ I : Nat, ki % ((n : Int) - 1) = (I : Int) := ⟨(ki % ((n : Int) - 1)).toNat, by have := Int.emod_nonneg ki (show (n : Int) - 1 ≠ 0 by omega); omega⟩
  have hI2 : I + 1 < n := by have := Int.emod_lt_of_pos ki (show 0 < (n : Int) - 1 by omega); omega
  obtain ⟨rfl, hbw⟩ := HM.out.2.1 (by omega)
  obtain ⟨c0, c1, c2, c3, c4⟩ := (HM.out.grown HC.out.2).2.2 I (by omega)
  obtain ⟨d0, d1, d2, d3, d4⟩ := (HM.out.grown HC.out.2).2.2 (I + 1) hI2
  have okx := (HC.out.1.1.2 I (by omega)).1
  have oky := (HC.out.1.1.2 (I + 1) (by omega)).1
  have hdd := (HC.out.1.1.2 (I + 1) (by omega)).2 (by omega)
  have hgap := HC.out.1.2 I (by omega)
  have at0 := at_knot0 HC.out.1 (p := I) (by omega)
  have at1 := at_knot0 HC.out.1 (p := I + 1) (by omega)
  have vb := fun p h0 h1 => val_between HC.out.1 (i := I) (by omega) (p := p) h0 h1
  rw [Nat.add_sub_cancel] at hdd
  have hw2 := HC.out.2.size
  have hb2 : b < w2.heap.size := by omega
  generalize hx : nthK l I = x at *
  generalize hy : nthK l (I + 1) = y at *
  have sb := fun (hs : x.2.2.1 ≠ 1) (p q : Int) h0 h1 h2 => seg_between okx oky hdd hs (p := p) (q := q) h0 h1 h2
  obtain ⟨xA, xV, xS, xW, xX⟩ := x
  obtain ⟨yA, yV, yS, yW, yX⟩ := y
  dsimp only at c0 c1 c2 c3 c4 d0 d1 d2 d3 d4 hdd hgap at0 at1 vb sb
  have HCC : ∀ w', Below w2.heap.size w2 w' → w'.cell? ⟨b, off + I * 5, none⟩ = some (.int .i64 xA) ∧ w'.cell? ⟨b, off + I * 5 + 1, none⟩ = some (.int .i64 xV) ∧ w'.cell? ⟨b, off + I * 5 + 2, none⟩ = some (.int .i64 xS) ∧ w'.cell? ⟨b, off + I * 5 + 3, none⟩ = some (.int .i64 xW) ∧ w'.cell? ⟨b, off + I * 5 + 4, none⟩ = some (.int .i64 xX) ∧
      w'.cell? ⟨b, off + (I + 1) * 5, none⟩ = some (.int .i64 yA) ∧ w'.cell? ⟨b, off + (I + 1) * 5 + 1, none⟩ = some (.int .i64 yV) ∧ w'.cell? ⟨b, off + (I + 1) * 5 + 2, none⟩ = some (.int .i64 yS) ∧ w'.cell? ⟨b, off + (I + 1) * 5 + 3, none⟩ = some (.int .i64 yW) ∧ w'.cell? ⟨b, off + (I + 1) * 5 + 4, none⟩ = some (.int .i64 yX) := by
    intro w' s
    exact ⟨(s.cell (p := ⟨b, _, none⟩) hb2).trans c0, (s.cell (p := ⟨b, _, none⟩) hb2).trans c1, (s.cell (p := ⟨b, _, none⟩) hb2).trans c2, (s.cell (p := ⟨b, _, none⟩) hb2).trans c3, (s.cell (p := ⟨b, _, none⟩) hb2).trans c4, (s.cell (p := ⟨b, _, none⟩) hb2).trans d0, (s.cell (p := ⟨b, _, none⟩) hb2).trans d1, (s.cell (p := ⟨b, _, none⟩) hb2).trans d2, (s.cell (p := ⟨b, _, none⟩) hb2).trans d3, (s.cell (p := ⟨b, _, none⟩) hb2).trans d4⟩
  have HCC := Lib.hid HCC
  unfold okK at okx oky
  dsimp only at okx oky
  have HV := Lib.hid (show _ ∧ _ ∧ _ ∧ _ ∧ _ ∧ _ ∧ _ ∧ _ from ⟨at0, at1, vb, sb, okx, oky, hgap, hI⟩)
  have bx := And.intro okx.1 okx.2.1
  have by' := And.intro oky.1 oky.2.1
  clear c0 c1 c2 c3 c4 d0 d1 d2 d3 d4 hx hy at0 at1 vb sb okx oky hgap
  go_wp2
  simp only [hI]
  clear hI
  have iq1 : (I : Int) < (n : Int) := by omega
  have iq2 : (I : Int) + 1 < (n : Int) := by omega
  have uI : IntKind.i64.wrap ((I : Int) + 1) = (I : Int) + 1 := wrap_id (by omega)
  refine wp_region_from 0 9 (fun w' => Below w2.heap.size w2 w') (by kernel_rfl) (by kernel_rfl) (by decide) (by kernel_rfl) (Below.refl _ _).drew ?_
  simp only [List.drop_zero, List.take_succ_cons, List.take_zero]
  refine wpHeld_cons (.slice (some ⟨b, off, none⟩) n cap) (by kernel_rfl) ?_ ?_
  · intro w' s
    obtain ⟨x0, x1, x2, x3, x4, z0, z1, z2, z3, z4⟩ := HCC.out w' s
    try go_simp
    try (first | omega | (intro h; exfalso; omega))
  refine wpHeld_cons (.int .i64 (I : Int)) (by kernel_rfl) ?_ ?_
  · intro w' s
    obtain ⟨x0, x1, x2, x3, x4, z0, z1, z2, z3, z4⟩ := HCC.out w' s
    try go_simp
    try (first | omega | (intro h; exfalso; omega))
  refine wpHeld_cons (.pointer (some ⟨b, off + I * 5, none⟩)) (by kernel_rfl) ?_ ?_
  · intro w' s
    obtain ⟨x0, x1, x2, x3, x4, z0, z1, z2, z3, z4⟩ := HCC.out w' s
    try go_simp
    try (first | omega | (intro h; exfalso; omega))
  refine wpHeld_cons (.agg #[.int .i64 xA, .int .i64 xV, .int .i64 xS, .int .i64 xW, .int .i64 xX]) (by kernel_rfl) ?_ ?_
  · intro w' s
    obtain ⟨x0, x1, x2, x3, x4, z0, z1, z2, z3, z4⟩ := HCC.out w' s
    try go_simp
    try (first | omega | (intro h; exfalso; omega))
  refine wpHeld_cons (.slice (some ⟨b, off, none⟩) n cap) (by kernel_rfl) ?_ ?_
  · intro w' s
    obtain ⟨x0, x1, x2, x3, x4, z0, z1, z2, z3, z4⟩ := HCC.out w' s
    try go_simp
    try (first | omega | (intro h; exfalso; omega))
  refine wpHeld_cons (.int .i64 (I : Int)) (by kernel_rfl) ?_ ?_
  · intro w' s
    obtain ⟨x0, x1, x2, x3, x4, z0, z1, z2, z3, z4⟩ := HCC.out w' s
    try go_simp
    try (first | omega | (intro h; exfalso; omega))
  refine wpHeld_cons (.int .i64 ((I : Int) + 1)) (by kernel_rfl) ?_ ?_
  · intro w' s
    obtain ⟨x0, x1, x2, x3, x4, z0, z1, z2, z3, z4⟩ := HCC.out w' s
    try go_simp
    try (first | omega | (intro h; exfalso; omega))
  refine wpHeld_cons (.pointer (some ⟨b, off + (I + 1) * 5, none⟩)) (by kernel_rfl) ?_ ?_
  · intro w' s
    obtain ⟨x0, x1, x2, x3, x4, z0, z1, z2, z3, z4⟩ := HCC.out w' s
    try go_simp
    try (first | omega | (intro h; exfalso; omega))
  refine wpHeld_cons (.agg #[.int .i64 yA, .int .i64 yV, .int .i64 yS, .int .i64 yW, .int .i64 yX]) (by kernel_rfl) ?_ ?_
  · intro w' s
    obtain ⟨x0, x1, x2, x3, x4, z0, z1, z2, z3, z4⟩ := HCC.out w' s
    try go_simp
    try (first | omega | (intro h; exfalso; omega))
  refine wpHeld_nil ?_
  go_simp
  have s0 : Below w2.heap.size w2 w2.drew := (Below.refl _ _).drew
  refine wpAnyH_two (i := 9) (j := 10) (by kernel_rfl) rfl rfl (by kernel_rfl) (by kernel_rfl) (fun K' hK' => ?_) (fun K' hK' => ?_)
  · go_simp
    refine hK' _ _ (s0.alloc s0.size _) ?_
    clear hK' K'
    refine wpAnyH_one (i := 10) (by kernel_rfl) rfl (by kernel_rfl) (fun K' hK' => ?_)
    go_simp
    refine hK' _ _ ((s0.alloc s0.size _).alloc (by simp) _) ?_
    clear hK' K'
    refine wpAnyH_one (i := 11) (by kernel_rfl) rfl (by kernel_rfl) (fun K' hK' => ?_)
    go_simp
    refine hK' _ _ (by go_grown) ?_
    clear hK' K'
    refine wpAnyH_one (i := 12) (by kernel_rfl) rfl (by kernel_rfl) (fun K' hK' => ?_)
    go_simp
    refine hK' _ _ (by go_grown) ?_
    clear hK' K'
    refine wpAnyH_done (by kernel_rfl) ?_ _
    refine NoPanic.normal ?_
    clear s0
    have n1 := blk_alloc (blk_new w2 (.cells #[.int .i64 xA, .int .i64 xV, .int .i64 xS, .int .i64 xW, .int .i64 xX] 43)) (.cells #[.int .i64 yA, .int .i64 yV, .int .i64 yS, .int .i64 yW, .int .i64 yX] 43)
    have n2 := blk_new (w2.alloc (.cells #[.int .i64 xA, .int .i64 xV, .int .i64 xS, .int .i64 xW, .int .i64 xX] 43)) (.cells #[.int .i64 yA, .int .i64 yV, .int .i64 yS, .int .i64 yW, .int .i64 yX] 43)
    rw [World.size_alloc] at n2
    have hBW := (HC.out.2.alloc HC.out.2.size (.cells #[.int .i64 xA, .int .i64 xV, .int .i64 xS, .int .i64 xW, .int .i64 xX] 43)).alloc (by simp; omega) (.cells #[.int .i64 yA, .int .i64 yV, .int .i64 yS, .int .i64 yW, .int .i64 yX] 43)
    have hWs : ((w2.alloc (.cells #[.int .i64 xA, .int .i64 xV, .int .i64 xS, .int .i64 xW, .int .i64 xX] 43)).alloc (.cells #[.int .i64 yA, .int .i64 yV, .int .i64 yS, .int .i64 yW, .int .i64 yX] 43)).heap.size = w2.heap.size + 2 := by simp
    generalize (w2.alloc (.cells #[.int .i64 xA, .int .i64 xV, .int .i64 xS, .int .i64 xW, .int .i64 xX] 43)).alloc (.cells #[.int .i64 yA, .int .i64 yV, .int .i64 yS, .int .i64 yW, .int .i64 yX] 43) = W0 at *
    have HN := Lib.hid (show _ ∧ _ ∧ _ from ⟨n1, n2, hBW⟩)
    have hws := hBW.size
    clear n1 n2 hBW
    have HCW : ∀ w', Below W0.heap.size W0 w' → w'.cell? ⟨w2.heap.size, 0, none⟩ = some (.int .i64 xA) ∧ w'.cell? ⟨w2.heap.size, 1, none⟩ = some (.int .i64 xV) ∧ w'.cell? ⟨w2.heap.size, 2, none⟩ = some (.int .i64 xS) ∧ w'.cell? ⟨(w2.heap.size + 1), 0, none⟩ = some (.int .i64 yA) ∧ w'.cell? ⟨(w2.heap.size + 1), 1, none⟩ = some (.int .i64 yV) := by
      intro w' s
      have m1 := blk_below HN.out.1 s (by omega)
      have m2 := blk_below HN.out.2.1 s (by omega)
      exact ⟨blk_cell m1 0, blk_cell m1 1, blk_cell m1 2, blk_cell m2 0, blk_cell m2 1⟩
    obtain ⟨x0, x1, x2, y0, y1⟩ := HCW W0 (Below.refl _ _)
    have HW := Lib.hid HCW
    clear HCW
    have zD : ¬ (yA - xA = 0) := by omega
    have zDb : (yA - xA == 0) = false := by simp; omega
    have uD : IntKind.i64.wrap (yA - xA) = yA - xA := wrap_id (by omega)
    obtain ⟨ra, hra⟩ : ∃ r, r = ai % (yA - xA) := ⟨_, rfl⟩
    obtain ⟨rb, hrb⟩ : ∃ r, r = bi % (yA - xA) := ⟨_, rfl⟩
    have ra0 := Int.emod_nonneg ai zD
    have rb0 := Int.emod_nonneg bi zD
    have ra1 := Int.emod_lt_of_pos ai (show 0 < yA - xA by omega)
    have rb1 := Int.emod_lt_of_pos bi (show 0 < yA - xA by omega)
    rw [← hra] at ra0 ra1
    rw [← hrb] at rb0 rb1
    have ta : ai.tmod (yA - xA) = ra := by rw [hra]; exact Int.tmod_eq_emod_of_nonneg ha.1
    have tb : bi.tmod (yA - xA) = rb := by rw [hrb]; exact Int.tmod_eq_emod_of_nonneg hb'.1
    have ta2 : ai % (yA - xA) = ra := hra.symm
    have tb2 : bi % (yA - xA) = rb := hrb.symm
    clear hra hrb
    have wai : IntKind.i64.wrap ai = ai := wrap_id (by omega)
    have wbi : IntKind.i64.wrap bi = bi := wrap_id (by omega)
    have wra : IntKind.i64.wrap ra = ra := wrap_id (by omega)
    have wrb : IntKind.i64.wrap rb = rb := wrap_id (by omega)
    have wpa : IntKind.i64.wrap (xA + ra) = xA + ra := wrap_id (by omega)
    have wpb : IntKind.i64.wrap (xA + rb) = xA + rb := wrap_id (by omega)
    go_wp2
    clear x0 x1 x2 y0 y1
    refine wp_region_from 0 14 (fun w' => Below W0.heap.size W0 w') (by kernel_rfl) (by kernel_rfl) (by decide) (by kernel_rfl) (by first | exact (Below.refl _ _).drew | exact (Below.refl _ _).drew.drew) ?_
    simp only [List.drop_zero, List.take_succ_cons, List.take_zero]
    refine wpHeld_cons (.pointer (some ⟨w2.heap.size, 0, none⟩)) (by kernel_rfl) ?_ ?_
    · intro w' s
      obtain ⟨x0, x1, x2, y0, y1⟩ := HW.out w' s
      try go_simp
      try (first | omega | (intro h; exfalso; omega))
    refine wpHeld_cons (.int .i64 xA) (by kernel_rfl) ?_ ?_
    · intro w' s
      obtain ⟨x0, x1, x2, y0, y1⟩ := HW.out w' s
      try go_simp
      try (first | omega | (intro h; exfalso; omega))
    refine wpHeld_cons (.int .u32 ai) (by kernel_rfl) ?_ ?_
    · intro w' s
      obtain ⟨x0, x1, x2, y0, y1⟩ := HW.out w' s
      try go_simp
      try (first | omega | (intro h; exfalso; omega))
    refine wpHeld_cons (.int .i64 ai) (by kernel_rfl) ?_ ?_
    · intro w' s
      obtain ⟨x0, x1, x2, y0, y1⟩ := HW.out w' s
      try go_simp
      try (first | omega | (intro h; exfalso; omega))
    refine wpHeld_cons (.int .i64 (yA - xA)) (by kernel_rfl) ?_ ?_
    · intro w' s
      obtain ⟨x0, x1, x2, y0, y1⟩ := HW.out w' s
      try go_simp
      try (first | omega | (intro h; exfalso; omega))
    refine wpHeld_cons (.int .i64 ra) (by kernel_rfl) ?_ ?_
    · intro w' s
      obtain ⟨x0, x1, x2, y0, y1⟩ := HW.out w' s
      try go_simp
      try (first | omega | (intro h; exfalso; omega))
    refine wpHeld_cons (.int .i64 (xA + ra)) (by kernel_rfl) ?_ ?_
    · intro w' s
      obtain ⟨x0, x1, x2, y0, y1⟩ := HW.out w' s
      try go_simp
      try (first | omega | (intro h; exfalso; omega))
    refine wpHeld_cons (.pointer (some ⟨w2.heap.size, 0, none⟩)) (by kernel_rfl) ?_ ?_
    · intro w' s
      obtain ⟨x0, x1, x2, y0, y1⟩ := HW.out w' s
      try go_simp
      try (first | omega | (intro h; exfalso; omega))
    refine wpHeld_cons (.int .i64 xA) (by kernel_rfl) ?_ ?_
    · intro w' s
      obtain ⟨x0, x1, x2, y0, y1⟩ := HW.out w' s
      try go_simp
      try (first | omega | (intro h; exfalso; omega))
    refine wpHeld_cons (.int .u32 bi) (by kernel_rfl) ?_ ?_
    · intro w' s
      obtain ⟨x0, x1, x2, y0, y1⟩ := HW.out w' s
      try go_simp
      try (first | omega | (intro h; exfalso; omega))
    refine wpHeld_cons (.int .i64 bi) (by kernel_rfl) ?_ ?_
    · intro w' s
      obtain ⟨x0, x1, x2, y0, y1⟩ := HW.out w' s
      try go_simp
      try (first | omega | (intro h; exfalso; omega))
    refine wpHeld_cons (.int .i64 (yA - xA)) (by kernel_rfl) ?_ ?_
    · intro w' s
      obtain ⟨x0, x1, x2, y0, y1⟩ := HW.out w' s
      try go_simp
      try (first | omega | (intro h; exfalso; omega))
    refine wpHeld_cons (.int .i64 rb) (by kernel_rfl) ?_ ?_
    · intro w' s
      obtain ⟨x0, x1, x2, y0, y1⟩ := HW.out w' s
      try go_simp
      try (first | omega | (intro h; exfalso; omega))
    refine wpHeld_cons (.int .i64 (xA + rb)) (by kernel_rfl) ?_ ?_
    · intro w' s
      obtain ⟨x0, x1, x2, y0, y1⟩ := HW.out w' s
      try go_simp
      try (first | omega | (intro h; exfalso; omega))
    refine wpHeld_nil ?_
    go_simp
    refine wpAnyH_one (i := 14) (by kernel_rfl) rfl (by kernel_rfl) (fun K' hK' => ?_)
    go_simp
    refine hK' _ _ (by first | exact (Below.refl _ _).drew | exact (Below.refl _ _).drew.drew) ?_
    clear hK' K'
    refine wpAnyH_one (i := 15) (by kernel_rfl) rfl (by kernel_rfl) (fun K' hK' => ?_)
    go_simp
    refine hK' _ _ (by first | exact (Below.refl _ _).drew | exact (Below.refl _ _).drew.drew) ?_
    clear hK' K'
    refine wpAnyH_done (by kernel_rfl) ?_ _
    refine NoPanic.normal ?_
    have HP := Lib.hid (show _ ∧ _ ∧ _ ∧ _ from ⟨ra0, ra1, rb0, rb1⟩)
    obtain ⟨P, hP⟩ : ∃ P, P = xA + ra := ⟨_, rfl⟩
    obtain ⟨Q, hQ⟩ : ∃ Q, Q = xA + rb := ⟨_, rfl⟩
    rw [← hP, ← hQ]
    have p0 : xA ≤ P := by omega
    have p1 : P < yA := by omega
    have r0 : xA ≤ Q := by omega
    have r1 : Q < yA := by omega
    have e0 := HV.out.1
    have e1 := HV.out.2.1
    have ep := HV.out.2.2.1 P p0 p1
    have eq := HV.out.2.2.1 Q r0 r1
    have sPQ := fun hs (h : P ≤ Q) => HV.out.2.2.2.1 hs P Q p0 h (by omega)
    have sQP := fun hs (h : Q ≤ P) => HV.out.2.2.2.1 hs Q P r0 h (by omega)
    rw [← ep, ← eq] at sPQ sQP
    have hold : xS = 1 → valC l P = xV ∧ valC l Q = xV := fun h => ⟨by rw [ep]; exact if_pos h, by rw [eq]; exact if_pos h⟩
    have vX := valV_yes HC.out.1 xA
    have vY := valV_yes HC.out.1 yA
    have vP := valV_yes HC.out.1 P
    have vQ := valV_yes HC.out.1 Q
    rw [e0] at vX
    rw [e1] at vY
    generalize valC l P = VP at *
    generalize valC l Q = VQ at *
    have ec := chkC_yes HC.out.1
    have HE := Lib.hid (show _ ∧ _ ∧ _ ∧ _ ∧ _ from ⟨vX, vY, vP, vQ, ec⟩)
    have HS := Lib.hid (show _ ∧ _ ∧ _ from ⟨sPQ, sQP, hold⟩)
    clear vX vY vP vQ ec sPQ sQP hold ep eq e0 e1 hP hQ ra0 ra1 rb0 rb1 ta tb ta2 tb2 wra wrb wpa wpb p0 p1 r0 r1 zD zDb uD
    obtain ⟨x0, x1, x2, y0, y1⟩ := HW.out W0 (Below.refl _ _)
    by_cases hPQ : Q < P
    · go_wp2_with fail
      refine (cvalue_any (some ⟨b, off, none⟩) b off n cap l xA _ (HM.out.grown (by first | exact HN.out.2.2.drew | exact HN.out.2.2.drew.drew | exact HN.out.2.2.drew.drew.drew | exact HB | exact HB.drew)) hn hnc hlc).mono ?_; rintro e v0 ⟨rfl, hb⟩; rw [HE.out.1, HE.out.2.2.2.2]
      have HB0 := Lib.hid (show _ ∧ _ from ⟨below_after (by first | exact HN.out.2.2.drew | exact HN.out.2.2.drew.drew | exact HN.out.2.2.drew.drew.drew) hb (by show w.heap.size ≤ W0.heap.size; omega), (show Below W0.heap.size W0 _ from (by first | exact (Below.refl _ _).drew | exact (Below.refl _ _).drew.drew | exact (Below.refl _ _).drew.drew.drew)).trans hb⟩)
      clear hb
      go_wp2_with fail
      refine (cvalue_any (some ⟨b, off, none⟩) b off n cap l Q _ (HM.out.grown (by first | exact HN.out.2.2.drew | exact HN.out.2.2.drew.drew | exact HN.out.2.2.drew.drew.drew | exact HB0.out.1 | exact HB0.out.1.drew)) hn hnc hlc).mono ?_; rintro e v1 ⟨rfl, hb⟩; rw [HE.out.2.2.2.1, HE.out.2.2.2.2]
      have HB1 := Lib.hid (show _ ∧ _ from ⟨below_after HB0.out.1 hb HB0.out.1.size, HB0.out.2.trans (hb.mono HB0.out.2.size)⟩)
      clear hb
      go_wp2_with fail
      refine (cvalue_any (some ⟨b, off, none⟩) b off n cap l P _ (HM.out.grown (by first | exact HN.out.2.2.drew | exact HN.out.2.2.drew.drew | exact HN.out.2.2.drew.drew.drew | exact HB1.out.1 | exact HB1.out.1.drew)) hn hnc hlc).mono ?_; rintro e v2 ⟨rfl, hb⟩; rw [HE.out.2.2.1, HE.out.2.2.2.2]
      have HB2 := Lib.hid (show _ ∧ _ from ⟨below_after HB1.out.1 hb HB1.out.1.size, HB1.out.2.trans (hb.mono HB1.out.2.size)⟩)
      clear hb
      clear x0 x1 x2 y0 y1
      obtain ⟨x0, x1, x2, y0, y1⟩ := HW.out _ HB2.out.2
      go_wp2_with fail
      refine (cvalue_any (some ⟨b, off, none⟩) b off n cap l yA _ (HM.out.grown (by first | exact HN.out.2.2.drew | exact HN.out.2.2.drew.drew | exact HN.out.2.2.drew.drew.drew | exact HB2.out.1 | exact HB2.out.1.drew)) hn hnc hlc).mono ?_; rintro e v3 ⟨rfl, hb⟩; rw [HE.out.2.1, HE.out.2.2.2.2]
      have HB3 := Lib.hid (show _ ∧ _ from ⟨below_after HB2.out.1 hb HB2.out.1.size, HB2.out.2.trans (hb.mono HB2.out.2.size)⟩)
      clear hb
      clear x0 x1 x2 y0 y1
      obtain ⟨x0, x1, x2, y0, y1⟩ := HW.out _ HB3.out.2
      by_cases hs : xS = 1
      · obtain ⟨h1, h2⟩ := HS.out.2.2 hs
        subst h1; subst h2
        go_wp2
        go_ret
        exact ⟨by simp, by first | exact HB3.out.1 | exact HB3.out.1.drew⟩
      · have hq := HS.out.2.1 hs (by omega)
        by_cases hv : xV ≤ yV
        · obtain ⟨g1, g2, g3⟩ := hq.1 hv
          clear hq
          go_wp2
          go_ret
          exact ⟨by simp, by first | exact HB3.out.1 | exact HB3.out.1.drew⟩
        · obtain ⟨g1, g2, g3⟩ := hq.2 (by omega)
          clear hq
          go_wp2
          go_ret
          exact ⟨by simp, by first | exact HB3.out.1 | exact HB3.out.1.drew⟩
    · go_wp2_with fail
      refine (cvalue_any (some ⟨b, off, none⟩) b off n cap l xA _ (HM.out.grown (by first | exact HN.out.2.2.drew | exact HN.out.2.2.drew.drew | exact HN.out.2.2.drew.drew.drew | exact HB | exact HB.drew)) hn hnc hlc).mono ?_; rintro e v0 ⟨rfl, hb⟩; rw [HE.out.1, HE.out.2.2.2.2]
      have HB0 := Lib.hid (show _ ∧ _ from ⟨below_after (by first | exact HN.out.2.2.drew | exact HN.out.2.2.drew.drew | exact HN.out.2.2.drew.drew.drew) hb (by show w.heap.size ≤ W0.heap.size; omega), (show Below W0.heap.size W0 _ from (by first | exact (Below.refl _ _).drew | exact (Below.refl _ _).drew.drew | exact (Below.refl _ _).drew.drew.drew)).trans hb⟩)
      clear hb
      go_wp2_with fail
      refine (cvalue_any (some ⟨b, off, none⟩) b off n cap l P _ (HM.out.grown (by first | exact HN.out.2.2.drew | exact HN.out.2.2.drew.drew | exact HN.out.2.2.drew.drew.drew | exact HB0.out.1 | exact HB0.out.1.drew)) hn hnc hlc).mono ?_; rintro e v1 ⟨rfl, hb⟩; rw [HE.out.2.2.1, HE.out.2.2.2.2]
      have HB1 := Lib.hid (show _ ∧ _ from ⟨below_after HB0.out.1 hb HB0.out.1.size, HB0.out.2.trans (hb.mono HB0.out.2.size)⟩)
      clear hb
      go_wp2_with fail
      refine (cvalue_any (some ⟨b, off, none⟩) b off n cap l Q _ (HM.out.grown (by first | exact HN.out.2.2.drew | exact HN.out.2.2.drew.drew | exact HN.out.2.2.drew.drew.drew | exact HB1.out.1 | exact HB1.out.1.drew)) hn hnc hlc).mono ?_; rintro e v2 ⟨rfl, hb⟩; rw [HE.out.2.2.2.1, HE.out.2.2.2.2]
      have HB2 := Lib.hid (show _ ∧ _ from ⟨below_after HB1.out.1 hb HB1.out.1.size, HB1.out.2.trans (hb.mono HB1.out.2.size)⟩)
      clear hb
      clear x0 x1 x2 y0 y1
      obtain ⟨x0, x1, x2, y0, y1⟩ := HW.out _ HB2.out.2
      go_wp2_with fail
      refine (cvalue_any (some ⟨b, off, none⟩) b off n cap l yA _ (HM.out.grown (by first | exact HN.out.2.2.drew | exact HN.out.2.2.drew.drew | exact HN.out.2.2.drew.drew.drew | exact HB2.out.1 | exact HB2.out.1.drew)) hn hnc hlc).mono ?_; rintro e v3 ⟨rfl, hb⟩; rw [HE.out.2.1, HE.out.2.2.2.2]
      have HB3 := Lib.hid (show _ ∧ _ from ⟨below_after HB2.out.1 hb HB2.out.1.size, HB2.out.2.trans (hb.mono HB2.out.2.size)⟩)
      clear hb
      clear x0 x1 x2 y0 y1
      obtain ⟨x0, x1, x2, y0, y1⟩ := HW.out _ HB3.out.2
      by_cases hs : xS = 1
      · obtain ⟨h1, h2⟩ := HS.out.2.2 hs
        subst h1; subst h2
        go_wp2
        go_ret
        exact ⟨by simp, by first | exact HB3.out.1 | exact HB3.out.1.drew⟩
      · have hq := HS.out.1 hs (by omega)
        by_cases hv : xV ≤ yV
        · obtain ⟨g1, g2, g3⟩ := hq.1 hv
          clear hq
          go_wp2
          go_ret
          exact ⟨by simp, by first | exact HB3.out.1 | exact HB3.out.1.drew⟩
        · obtain ⟨g1, g2, g3⟩ := hq.2 (by omega)
          clear hq
          go_wp2
          go_ret
          exact ⟨by simp, by first | exact HB3.out.1 | exact HB3.out.1.drew⟩
  · go_simp
    refine hK' _ _ (s0.alloc s0.size _) ?_
    clear hK' K'
    refine wpAnyH_one (i := 9) (by kernel_rfl) rfl (by kernel_rfl) (fun K' hK' => ?_)
    go_simp
    refine hK' _ _ ((s0.alloc s0.size _).alloc (by simp) _) ?_
    clear hK' K'
    refine wpAnyH_one (i := 11) (by kernel_rfl) rfl (by kernel_rfl) (fun K' hK' => ?_)
    go_simp
    refine hK' _ _ (by go_grown) ?_
    clear hK' K'
    refine wpAnyH_one (i := 12) (by kernel_rfl) rfl (by kernel_rfl) (fun K' hK' => ?_)
    go_simp
    refine hK' _ _ (by go_grown) ?_
    clear hK' K'
    refine wpAnyH_done (by kernel_rfl) ?_ _
    refine NoPanic.normal ?_
    clear s0
    have n1 := blk_alloc (blk_new w2 (.cells #[.int .i64 yA, .int .i64 yV, .int .i64 yS, .int .i64 yW, .int .i64 yX] 43)) (.cells #[.int .i64 xA, .int .i64 xV, .int .i64 xS, .int .i64 xW, .int .i64 xX] 43)
    have n2 := blk_new (w2.alloc (.cells #[.int .i64 yA, .int .i64 yV, .int .i64 yS, .int .i64 yW, .int .i64 yX] 43)) (.cells #[.int .i64 xA, .int .i64 xV, .int .i64 xS, .int .i64 xW, .int .i64 xX] 43)
    rw [World.size_alloc] at n2
    have hBW := (HC.out.2.alloc HC.out.2.size (.cells #[.int .i64 yA, .int .i64 yV, .int .i64 yS, .int .i64 yW, .int .i64 yX] 43)).alloc (by simp; omega) (.cells #[.int .i64 xA, .int .i64 xV, .int .i64 xS, .int .i64 xW, .int .i64 xX] 43)
    have hWs : ((w2.alloc (.cells #[.int .i64 yA, .int .i64 yV, .int .i64 yS, .int .i64 yW, .int .i64 yX] 43)).alloc (.cells #[.int .i64 xA, .int .i64 xV, .int .i64 xS, .int .i64 xW, .int .i64 xX] 43)).heap.size = w2.heap.size + 2 := by simp
    generalize (w2.alloc (.cells #[.int .i64 yA, .int .i64 yV, .int .i64 yS, .int .i64 yW, .int .i64 yX] 43)).alloc (.cells #[.int .i64 xA, .int .i64 xV, .int .i64 xS, .int .i64 xW, .int .i64 xX] 43) = W0 at *
    have HN := Lib.hid (show _ ∧ _ ∧ _ from ⟨n2, n1, hBW⟩)
    have hws := hBW.size
    clear n1 n2 hBW
    have HCW : ∀ w', Below W0.heap.size W0 w' → w'.cell? ⟨(w2.heap.size + 1), 0, none⟩ = some (.int .i64 xA) ∧ w'.cell? ⟨(w2.heap.size + 1), 1, none⟩ = some (.int .i64 xV) ∧ w'.cell? ⟨(w2.heap.size + 1), 2, none⟩ = some (.int .i64 xS) ∧ w'.cell? ⟨w2.heap.size, 0, none⟩ = some (.int .i64 yA) ∧ w'.cell? ⟨w2.heap.size, 1, none⟩ = some (.int .i64 yV) := by
      intro w' s
      have m1 := blk_below HN.out.1 s (by omega)
      have m2 := blk_below HN.out.2.1 s (by omega)
      exact ⟨blk_cell m1 0, blk_cell m1 1, blk_cell m1 2, blk_cell m2 0, blk_cell m2 1⟩
    obtain ⟨x0, x1, x2, y0, y1⟩ := HCW W0 (Below.refl _ _)
    have HW := Lib.hid HCW
    clear HCW
    have zD : ¬ (yA - xA = 0) := by omega
    have zDb : (yA - xA == 0) = false := by simp; omega
    have uD : IntKind.i64.wrap (yA - xA) = yA - xA := wrap_id (by omega)
    obtain ⟨ra, hra⟩ : ∃ r, r = ai % (yA - xA) := ⟨_, rfl⟩
    obtain ⟨rb, hrb⟩ : ∃ r, r = bi % (yA - xA) := ⟨_, rfl⟩
    have ra0 := Int.emod_nonneg ai zD
    have rb0 := Int.emod_nonneg bi zD
    have ra1 := Int.emod_lt_of_pos ai (show 0 < yA - xA by omega)
    have rb1 := Int.emod_lt_of_pos bi (show 0 < yA - xA by omega)
    rw [← hra] at ra0 ra1
    rw [← hrb] at rb0 rb1
    have ta : ai.tmod (yA - xA) = ra := by rw [hra]; exact Int.tmod_eq_emod_of_nonneg ha.1
    have tb : bi.tmod (yA - xA) = rb := by rw [hrb]; exact Int.tmod_eq_emod_of_nonneg hb'.1
    have ta2 : ai % (yA - xA) = ra := hra.symm
    have tb2 : bi % (yA - xA) = rb := hrb.symm
    clear hra hrb
    have wai : IntKind.i64.wrap ai = ai := wrap_id (by omega)
    have wbi : IntKind.i64.wrap bi = bi := wrap_id (by omega)
    have wra : IntKind.i64.wrap ra = ra := wrap_id (by omega)
    have wrb : IntKind.i64.wrap rb = rb := wrap_id (by omega)
    have wpa : IntKind.i64.wrap (xA + ra) = xA + ra := wrap_id (by omega)
    have wpb : IntKind.i64.wrap (xA + rb) = xA + rb := wrap_id (by omega)
    go_wp2
    clear x0 x1 x2 y0 y1
    refine wp_region_from 0 14 (fun w' => Below W0.heap.size W0 w') (by kernel_rfl) (by kernel_rfl) (by decide) (by kernel_rfl) (by first | exact (Below.refl _ _).drew | exact (Below.refl _ _).drew.drew) ?_
    simp only [List.drop_zero, List.take_succ_cons, List.take_zero]
    refine wpHeld_cons (.pointer (some ⟨(w2.heap.size + 1), 0, none⟩)) (by kernel_rfl) ?_ ?_
    · intro w' s
      obtain ⟨x0, x1, x2, y0, y1⟩ := HW.out w' s
      try go_simp
      try (first | omega | (intro h; exfalso; omega))
    refine wpHeld_cons (.int .i64 xA) (by kernel_rfl) ?_ ?_
    · intro w' s
      obtain ⟨x0, x1, x2, y0, y1⟩ := HW.out w' s
      try go_simp
      try (first | omega | (intro h; exfalso; omega))
    refine wpHeld_cons (.int .u32 ai) (by kernel_rfl) ?_ ?_
    · intro w' s
      obtain ⟨x0, x1, x2, y0, y1⟩ := HW.out w' s
      try go_simp
      try (first | omega | (intro h; exfalso; omega))
    refine wpHeld_cons (.int .i64 ai) (by kernel_rfl) ?_ ?_
    · intro w' s
      obtain ⟨x0, x1, x2, y0, y1⟩ := HW.out w' s
      try go_simp
      try (first | omega | (intro h; exfalso; omega))
    refine wpHeld_cons (.int .i64 (yA - xA)) (by kernel_rfl) ?_ ?_
    · intro w' s
      obtain ⟨x0, x1, x2, y0, y1⟩ := HW.out w' s
      try go_simp
      try (first | omega | (intro h; exfalso; omega))
    refine wpHeld_cons (.int .i64 ra) (by kernel_rfl) ?_ ?_
    · intro w' s
      obtain ⟨x0, x1, x2, y0, y1⟩ := HW.out w' s
      try go_simp
      try (first | omega | (intro h; exfalso; omega))
    refine wpHeld_cons (.int .i64 (xA + ra)) (by kernel_rfl) ?_ ?_
    · intro w' s
      obtain ⟨x0, x1, x2, y0, y1⟩ := HW.out w' s
      try go_simp
      try (first | omega | (intro h; exfalso; omega))
    refine wpHeld_cons (.pointer (some ⟨(w2.heap.size + 1), 0, none⟩)) (by kernel_rfl) ?_ ?_
    · intro w' s
      obtain ⟨x0, x1, x2, y0, y1⟩ := HW.out w' s
      try go_simp
      try (first | omega | (intro h; exfalso; omega))
    refine wpHeld_cons (.int .i64 xA) (by kernel_rfl) ?_ ?_
    · intro w' s
      obtain ⟨x0, x1, x2, y0, y1⟩ := HW.out w' s
      try go_simp
      try (first | omega | (intro h; exfalso; omega))
    refine wpHeld_cons (.int .u32 bi) (by kernel_rfl) ?_ ?_
    · intro w' s
      obtain ⟨x0, x1, x2, y0, y1⟩ := HW.out w' s
      try go_simp
      try (first | omega | (intro h; exfalso; omega))
    refine wpHeld_cons (.int .i64 bi) (by kernel_rfl) ?_ ?_
    · intro w' s
      obtain ⟨x0, x1, x2, y0, y1⟩ := HW.out w' s
      try go_simp
      try (first | omega | (intro h; exfalso; omega))
    refine wpHeld_cons (.int .i64 (yA - xA)) (by kernel_rfl) ?_ ?_
    · intro w' s
      obtain ⟨x0, x1, x2, y0, y1⟩ := HW.out w' s
      try go_simp
      try (first | omega | (intro h; exfalso; omega))
    refine wpHeld_cons (.int .i64 rb) (by kernel_rfl) ?_ ?_
    · intro w' s
      obtain ⟨x0, x1, x2, y0, y1⟩ := HW.out w' s
      try go_simp
      try (first | omega | (intro h; exfalso; omega))
    refine wpHeld_cons (.int .i64 (xA + rb)) (by kernel_rfl) ?_ ?_
    · intro w' s
      obtain ⟨x0, x1, x2, y0, y1⟩ := HW.out w' s
      try go_simp
      try (first | omega | (intro h; exfalso; omega))
    refine wpHeld_nil ?_
    go_simp
    refine wpAnyH_one (i := 14) (by kernel_rfl) rfl (by kernel_rfl) (fun K' hK' => ?_)
    go_simp
    refine hK' _ _ (by first | exact (Below.refl _ _).drew | exact (Below.refl _ _).drew.drew) ?_
    clear hK' K'
    refine wpAnyH_one (i := 15) (by kernel_rfl) rfl (by kernel_rfl) (fun K' hK' => ?_)
    go_simp
    refine hK' _ _ (by first | exact (Below.refl _ _).drew | exact (Below.refl _ _).drew.drew) ?_
    clear hK' K'
    refine wpAnyH_done (by kernel_rfl) ?_ _
    refine NoPanic.normal ?_
    have HP := Lib.hid (show _ ∧ _ ∧ _ ∧ _ from ⟨ra0, ra1, rb0, rb1⟩)
    obtain ⟨P, hP⟩ : ∃ P, P = xA + ra := ⟨_, rfl⟩
    obtain ⟨Q, hQ⟩ : ∃ Q, Q = xA + rb := ⟨_, rfl⟩
    rw [← hP, ← hQ]
    have p0 : xA ≤ P := by omega
    have p1 : P < yA := by omega
    have r0 : xA ≤ Q := by omega
    have r1 : Q < yA := by omega
    have e0 := HV.out.1
    have e1 := HV.out.2.1
    have ep := HV.out.2.2.1 P p0 p1
    have eq := HV.out.2.2.1 Q r0 r1
    have sPQ := fun hs (h : P ≤ Q) => HV.out.2.2.2.1 hs P Q p0 h (by omega)
    have sQP := fun hs (h : Q ≤ P) => HV.out.2.2.2.1 hs Q P r0 h (by omega)
    rw [← ep, ← eq] at sPQ sQP
    have hold : xS = 1 → valC l P = xV ∧ valC l Q = xV := fun h => ⟨by rw [ep]; exact if_pos h, by rw [eq]; exact if_pos h⟩
    have vX := valV_yes HC.out.1 xA
    have vY := valV_yes HC.out.1 yA
    have vP := valV_yes HC.out.1 P
    have vQ := valV_yes HC.out.1 Q
    rw [e0] at vX
    rw [e1] at vY
    generalize valC l P = VP at *
    generalize valC l Q = VQ at *
    have ec := chkC_yes HC.out.1
    have HE := Lib.hid (show _ ∧ _ ∧ _ ∧ _ ∧ _ from ⟨vX, vY, vP, vQ, ec⟩)
    have HS := Lib.hid (show _ ∧ _ ∧ _ from ⟨sPQ, sQP, hold⟩)
    clear vX vY vP vQ ec sPQ sQP hold ep eq e0 e1 hP hQ ra0 ra1 rb0 rb1 ta tb ta2 tb2 wra wrb wpa wpb p0 p1 r0 r1 zD zDb uD
    obtain ⟨x0, x1, x2, y0, y1⟩ := HW.out W0 (Below.refl _ _)
    by_cases hPQ : Q < P
    · go_wp2_with fail
      refine (cvalue_any (some ⟨b, off, none⟩) b off n cap l xA _ (HM.out.grown (by first | exact HN.out.2.2.drew | exact HN.out.2.2.drew.drew | exact HN.out.2.2.drew.drew.drew | exact HB | exact HB.drew)) hn hnc hlc).mono ?_; rintro e v0 ⟨rfl, hb⟩; rw [HE.out.1, HE.out.2.2.2.2]
      have HB0 := Lib.hid (show _ ∧ _ from ⟨below_after (by first | exact HN.out.2.2.drew | exact HN.out.2.2.drew.drew | exact HN.out.2.2.drew.drew.drew) hb (by show w.heap.size ≤ W0.heap.size; omega), (show Below W0.heap.size W0 _ from (by first | exact (Below.refl _ _).drew | exact (Below.refl _ _).drew.drew | exact (Below.refl _ _).drew.drew.drew)).trans hb⟩)
      clear hb
      go_wp2_with fail
      refine (cvalue_any (some ⟨b, off, none⟩) b off n cap l Q _ (HM.out.grown (by first | exact HN.out.2.2.drew | exact HN.out.2.2.drew.drew | exact HN.out.2.2.drew.drew.drew | exact HB0.out.1 | exact HB0.out.1.drew)) hn hnc hlc).mono ?_; rintro e v1 ⟨rfl, hb⟩; rw [HE.out.2.2.2.1, HE.out.2.2.2.2]
      have HB1 := Lib.hid (show _ ∧ _ from ⟨below_after HB0.out.1 hb HB0.out.1.size, HB0.out.2.trans (hb.mono HB0.out.2.size)⟩)
      clear hb
      go_wp2_with fail
      refine (cvalue_any (some ⟨b, off, none⟩) b off n cap l P _ (HM.out.grown (by first | exact HN.out.2.2.drew | exact HN.out.2.2.drew.drew | exact HN.out.2.2.drew.drew.drew | exact HB1.out.1 | exact HB1.out.1.drew)) hn hnc hlc).mono ?_; rintro e v2 ⟨rfl, hb⟩; rw [HE.out.2.2.1, HE.out.2.2.2.2]
      have HB2 := Lib.hid (show _ ∧ _ from ⟨below_after HB1.out.1 hb HB1.out.1.size, HB1.out.2.trans (hb.mono HB1.out.2.size)⟩)
      clear hb
      clear x0 x1 x2 y0 y1
      obtain ⟨x0, x1, x2, y0, y1⟩ := HW.out _ HB2.out.2
      go_wp2_with fail
      refine (cvalue_any (some ⟨b, off, none⟩) b off n cap l yA _ (HM.out.grown (by first | exact HN.out.2.2.drew | exact HN.out.2.2.drew.drew | exact HN.out.2.2.drew.drew.drew | exact HB2.out.1 | exact HB2.out.1.drew)) hn hnc hlc).mono ?_; rintro e v3 ⟨rfl, hb⟩; rw [HE.out.2.1, HE.out.2.2.2.2]
      have HB3 := Lib.hid (show _ ∧ _ from ⟨below_after HB2.out.1 hb HB2.out.1.size, HB2.out.2.trans (hb.mono HB2.out.2.size)⟩)
      clear hb
      clear x0 x1 x2 y0 y1
      obtain ⟨x0, x1, x2, y0, y1⟩ := HW.out _ HB3.out.2
      by_cases hs : xS = 1
      · obtain ⟨h1, h2⟩ := HS.out.2.2 hs
        subst h1; subst h2
        go_wp2
        go_ret
        exact ⟨by simp, by first | exact HB3.out.1 | exact HB3.out.1.drew⟩
      · have hq := HS.out.2.1 hs (by omega)
        by_cases hv : xV ≤ yV
        · obtain ⟨g1, g2, g3⟩ := hq.1 hv
          clear hq
          go_wp2
          go_ret
          exact ⟨by simp, by first | exact HB3.out.1 | exact HB3.out.1.drew⟩
        · obtain ⟨g1, g2, g3⟩ := hq.2 (by omega)
          clear hq
          go_wp2
          go_ret
          exact ⟨by simp, by first | exact HB3.out.1 | exact HB3.out.1.drew⟩
    · go_wp2_with fail
      refine (cvalue_any (some ⟨b, off, none⟩) b off n cap l xA _ (HM.out.grown (by first | exact HN.out.2.2.drew | exact HN.out.2.2.drew.drew | exact HN.out.2.2.drew.drew.drew | exact HB | exact HB.drew)) hn hnc hlc).mono ?_; rintro e v0 ⟨rfl, hb⟩; rw [HE.out.1, HE.out.2.2.2.2]
      have HB0 := Lib.hid (show _ ∧ _ from ⟨below_after (by first | exact HN.out.2.2.drew | exact HN.out.2.2.drew.drew | exact HN.out.2.2.drew.drew.drew) hb (by show w.heap.size ≤ W0.heap.size; omega), (show Below W0.heap.size W0 _ from (by first | exact (Below.refl _ _).drew | exact (Below.refl _ _).drew.drew | exact (Below.refl _ _).drew.drew.drew)).trans hb⟩)
      clear hb
      go_wp2_with fail
      refine (cvalue_any (some ⟨b, off, none⟩) b off n cap l P _ (HM.out.grown (by first | exact HN.out.2.2.drew | exact HN.out.2.2.drew.drew | exact HN.out.2.2.drew.drew.drew | exact HB0.out.1 | exact HB0.out.1.drew)) hn hnc hlc).mono ?_; rintro e v1 ⟨rfl, hb⟩; rw [HE.out.2.2.1, HE.out.2.2.2.2]
      have HB1 := Lib.hid (show _ ∧ _ from ⟨below_after HB0.out.1 hb HB0.out.1.size, HB0.out.2.trans (hb.mono HB0.out.2.size)⟩)
      clear hb
      go_wp2_with fail
      refine (cvalue_any (some ⟨b, off, none⟩) b off n cap l Q _ (HM.out.grown (by first | exact HN.out.2.2.drew | exact HN.out.2.2.drew.drew | exact HN.out.2.2.drew.drew.drew | exact HB1.out.1 | exact HB1.out.1.drew)) hn hnc hlc).mono ?_; rintro e v2 ⟨rfl, hb⟩; rw [HE.out.2.2.2.1, HE.out.2.2.2.2]
      have HB2 := Lib.hid (show _ ∧ _ from ⟨below_after HB1.out.1 hb HB1.out.1.size, HB1.out.2.trans (hb.mono HB1.out.2.size)⟩)
      clear hb
      clear x0 x1 x2 y0 y1
      obtain ⟨x0, x1, x2, y0, y1⟩ := HW.out _ HB2.out.2
      go_wp2_with fail
      refine (cvalue_any (some ⟨b, off, none⟩) b off n cap l yA _ (HM.out.grown (by first | exact HN.out.2.2.drew | exact HN.out.2.2.drew.drew | exact HN.out.2.2.drew.drew.drew | exact HB2.out.1 | exact HB2.out.1.drew)) hn hnc hlc).mono ?_; rintro e v3 ⟨rfl, hb⟩; rw [HE.out.2.1, HE.out.2.2.2.2]
      have HB3 := Lib.hid (show _ ∧ _ from ⟨below_after HB2.out.1 hb HB2.out.1.size, HB2.out.2.trans (hb.mono HB2.out.2.size)⟩)
      clear hb
      clear x0 x1 x2 y0 y1
      obtain ⟨x0, x1, x2, y0, y1⟩ := HW.out _ HB3.out.2
      by_cases hs : xS = 1
      · obtain ⟨h1, h2⟩ := HS.out.2.2 hs
        subst h1; subst h2
        go_wp2
        go_ret
        exact ⟨by simp, by first | exact HB3.out.1 | exact HB3.out.1.drew⟩
      · have hq := HS.out.1 hs (by omega)
        by_cases hv : xV ≤ yV
        · obtain ⟨g1, g2, g3⟩ := hq.1 hv
          clear hq
          go_wp2
          go_ret
          exact ⟨by simp, by first | exact HB3.out.1 | exact HB3.out.1.drew⟩
        · obtain ⟨g1, g2, g3⟩ := hq.2 (by omega)
          clear hq
          go_wp2
          go_ret
          exact ⟨by simp, by first | exact HB3.out.1 | exact HB3.out.1.drew⟩
end Go.Proofs.Ytafffmcmdhbghaa
