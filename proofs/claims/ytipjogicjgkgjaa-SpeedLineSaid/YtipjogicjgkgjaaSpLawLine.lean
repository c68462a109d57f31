/- The walk of SpeedLine (layer 26). -/
import Derived.Test.YtipjogicjgkgjaaSpLawBack
namespace Go.Proofs.Ytipjogicjgkgjaa
open Go.ChangeShapes Go.WideShapes Go.ChangeAt Go.RowKit

def lnL (s r : Int) (k : Nat) : List Int := (List.range k).map fun (i : Nat) => s + (i : Int) * r
theorem lnL_len (s r : Int) (k : Nat) : (lnL s r k).length = k := by simp [lnL]
theorem lnL_succ (s r : Int) (k : Nat) : lnL s r (k + 1) = lnL s r k ++ [s + (k : Int) * r] := by simp [lnL, List.range_succ]
theorem lnL_at (s r : Int) {k i : Nat} (h : i < k) : (lnL s r k).getD i 0 = s + (i : Int) * r := by
  unfold lnL
  rw [List.getD_eq_getElem?_getD, List.getElem?_map, List.getElem?_range h]
  rfl
theorem ln_bd {s r : Int} {i : Nat} (s1 : -1073741824 ≤ s) (s2 : s ≤ 1073741824) (r1 : -16777216 ≤ r) (r2 : r ≤ 16777216) (hi : i ≤ 50) : -2147483648 ≤ s + (i : Int) * r ∧ s + (i : Int) * r ≤ 2147483647 := by
  have h1 : (i : Int) * r ≤ (i : Int) * 16777216 := Int.mul_le_mul_of_nonneg_left r2 (by omega)
  have h2 : (i : Int) * (-16777216) ≤ (i : Int) * r := Int.mul_le_mul_of_nonneg_left r1 (by omega)
  omega
theorem clip_in {x : Int} (h1 : -2147483648 ≤ x) (h2 : x ≤ 2147483647) : clip x = x := by unfold clip; omega
/-- A sample of a straight line. -/
theorem smp_line {s r a b : Int} {n i : Nat} (s1 : -1073741824 ≤ s) (s2 : s ≤ 1073741824) (r1 : -16777216 ≤ r) (r2 : r ≤ 16777216) (hn : n ≤ 50) (a1 : 1 ≤ a) (b1 : 1 ≤ b) (hi : (i : Int) < lenV n a b) :
    smpI (lnL s r n) a b i * b ≤ s * b + r * i * a ∧ s * b + r * i * a < (smpI (lnL s r n) a b i + 1) * b := by
  obtain ⟨q, hq, hqn, hq1, p0⟩ := place_ok a1 b1 hi
  have e := Int.mul_ediv_add_emod ((i : Int) * a) b
  have m0 : 0 ≤ (i : Int) * a % b := Int.emod_nonneg _ (by omega)
  have m1 : (i : Int) * a % b < b := Int.emod_lt_of_pos _ (by omega)
  rw [hq] at e
  have hv : smpI (lnL s r n) a b i = s + (q : Int) * r + r * ((i : Int) * a % b) / b := by
    unfold smpI sV
    rw [hq, Int.toNat_natCast]
    have c1 := ln_bd (i := q) s1 s2 r1 r2 (by omega)
    by_cases h : (i : Int) * a % b = 0
    · rw [if_pos h, h, lnL_at s r hqn, clip_in c1.1 c1.2]
      simp
    · have c2 := ln_bd (i := q + 1) s1 s2 r1 r2 (by have := hq1 h; omega)
      rw [if_neg h, lnL_at s r hqn, lnL_at s r (hq1 h)]
      unfold lineV
      rw [clip_in c1.1 c1.2, clip_in c2.1 c2.2]
      congr 3
      rw [show ((q + 1 : Nat) : Int) = (q : Int) + 1 by omega, Int.add_mul]
      omega
  generalize (i : Int) * a % b = m at *
  have hr : r * (i : Int) * a = r * (b * (q : Int) + m) := by rw [e, Int.mul_assoc]
  rw [hv, hr]
  have d1 : r * m / b * b ≤ r * m := Int.ediv_mul_le _ (by omega)
  have d2 : r * m < (r * m / b + 1) * b := Int.lt_ediv_add_one_mul_self _ (by omega)
  generalize r * m / b = t at *
  have x1 : (s + (q : Int) * r + t) * b = s * b + r * (b * (q : Int)) + t * b := by grind
  have x2 : (s + (q : Int) * r + t + 1) * b = s * b + r * (b * (q : Int)) + (t + 1) * b := by grind
  have x3 : r * (b * (q : Int) + m) = r * (b * (q : Int)) + r * m := Int.mul_add _ _ _
  rw [x1, x2, x3]
  constructor <;> omega
theorem smp_range (l : List Int) (a b : Int) (i : Nat) (b1 : 1 ≤ b) : -2147483648 ≤ smpI l a b i ∧ smpI l a b i ≤ 2147483647 := by
  unfold smpI sV
  have m0 : 0 ≤ (i : Int) * a % b := Int.emod_nonneg _ (by omega)
  have m1 : (i : Int) * a % b < b := Int.emod_lt_of_pos _ (by omega)
  split
  · exact ⟨clip_lo _, clip_hi _⟩
  · unfold lineV
    have h := line_in (a := clip (l.getD ((i : Int) * a / b).toNat 0)) (b := clip (l.getD (((i : Int) * a / b).toNat + 1) 0)) b1 m0 (by omega)
    have h1 := clip_lo (l.getD ((i : Int) * a / b).toNat 0); have h2 := clip_hi (l.getD ((i : Int) * a / b).toNat 0)
    have h3 := clip_lo (l.getD (((i : Int) * a / b).toNat + 1) 0); have h4 := clip_hi (l.getD (((i : Int) * a / b).toNat + 1) 0)
    omega
theorem tdiv_bd {x d : Int} (hd : 0 < d) {L : Int} (h1 : -(L * d) ≤ x) (h2 : x ≤ L * d) : -L ≤ x.tdiv d ∧ x.tdiv d ≤ L := by
  rcases Int.le_total 0 x with h | h
  · rw [Int.tdiv_eq_ediv_of_nonneg h]
    have e1 : x / d ≤ L * d / d := Int.ediv_le_ediv hd h2
    rw [Int.mul_ediv_cancel _ (by omega)] at e1
    have e0 : 0 ≤ x / d := Int.ediv_nonneg h (by omega)
    omega
  · have e : x.tdiv d = -((-x) / d) := by
      rw [← Int.tdiv_eq_ediv_of_nonneg (show 0 ≤ -x by omega), Int.neg_tdiv]; omega
    rw [e]
    have e1 : (-x) / d ≤ L * d / d := Int.ediv_le_ediv hd (by omega)
    rw [Int.mul_ediv_cancel _ (by omega)] at e1
    have e0 : 0 ≤ (-x) / d := Int.ediv_nonneg (by omega) (by omega)
    omega

set_option maxRecDepth 100000 in
set_option maxHeartbeats 8000000 in
theorem speedLine_walk (nn fr st aa bb : Int) (w : World) (n1 : 0 ≤ nn) (n2 : nn ≤ 255) (f1 : -2147483648 ≤ fr) (f2 : fr ≤ 2147483647) (t1 : -2147483648 ≤ st) (t2 : st ≤ 2147483647) :
    Calls Try.prog 7 #[.int .u8 nn, .int .i32 fr, .int .i32 st, .int .i64 aa, .int .i64 bb] w fun e w' => e = .returned (.bool true) ∧ Below w.heap.size w w' := by
  have hB := Below.refl w.heap.size w
  obtain ⟨k, hk⟩ := Int.eq_ofNat_of_zero_le (show 0 ≤ 1 + nn % 50 by omega)
  have k1 : 1 ≤ k := by omega
  have k2 : k ≤ 50 := by omega
  have u1 : IntKind.i64.wrap nn = nn := by rw [IntKind.wrap_i64]; omega
  have u2 : IntKind.i64.wrap fr = fr := by rw [IntKind.wrap_i64]; omega
  have u3 : IntKind.i64.wrap st = st := by rw [IntKind.wrap_i64]; omega
  have u4 : nn.tmod 50 = nn % 50 := Int.tmod_eq_emod_of_nonneg n1
  have u5 : IntKind.i64.wrap (1 + nn % 50) = (k : Int) := by rw [IntKind.wrap_i64]; omega
  obtain ⟨s1, s2⟩ := tdiv_bd (x := fr) (d := 2) (L := 1073741824) (by omega) (by omega) (by omega)
  obtain ⟨r1, r2⟩ := tdiv_bd (x := st) (d := 128) (L := 16777216) (by omega) (by omega) (by omega)
  have u6 : IntKind.i64.wrap (fr.tdiv 2) = fr.tdiv 2 := by rw [IntKind.wrap_i64]; omega
  have u7 : IntKind.i64.wrap (st.tdiv 128) = st.tdiv 128 := by rw [IntKind.wrap_i64]; omega
  obtain ⟨s, hs⟩ : ∃ s, fr.tdiv 2 = s := ⟨_, rfl⟩
  obtain ⟨r, hr⟩ : ∃ r, st.tdiv 128 = r := ⟨_, rfl⟩
  rw [hs] at s1 s2 u6
  rw [hr] at r1 r2 u7
  go_enter Try.func7, Try.ntmps7
  go_wp2_with fail
  refine (sane_any _).mono ?_; rintro e w0 ⟨rfl, hb⟩
  replace hB := below_after hB hb hB.size
  clear hb
  have HB := Lib.hid hB; clear hB
  go_wp2
  go_loopw [14, 15, 33] (fun v _ i wr => ∃ j : Nat, j ≤ k ∧ i = .int .i64 j ∧ Ints wr w0.heap.size v (lnL s r j) ∧ Below w0.heap.size w0 wr) (fun _ _ i _ => k - (intOf i).toNat)
  case atStart => exact ⟨0, Nat.zero_le _, rfl, Ints.nil _ _, Below.refl _ _⟩
  case round =>
    obtain ⟨j, hj, rfl, hO, hB⟩ := hrel
    by_cases hlt : j < k
    · have bd := ln_bd (i := j) s1 s2 r1 r2 (by omega)
      have z1 : IntKind.i64.wrap ((j : Int) * r) = (j : Int) * r := by rw [IntKind.wrap_i64]; omega
      have z2 : IntKind.i64.wrap (s + (j : Int) * r) = s + (j : Int) * r := by rw [IntKind.wrap_i64]; omega
      have hS := lnL_succ s r j
      have hsz := hB.size
      have HS := Lib.hid hS; clear hS
      have HB2 := Lib.hid hB; clear hB
      go_wp2_with (at_builtin; refine wpList_append_int rfl _ _ rfl w0.heap.size _ _ rfl (hO.alloc _) _ _ rfl _ _ (blk_new _ _) (by rw [lnL_len]; omega) (by simp; omega) ?_; intro v' w8 hO1 hB1 _)
      have HO1 := Lib.hid hO1; clear hO1
      go_roundw
      case rel => exact ⟨j + 1, by omega, by go_num, by rw [HS.out]; exact HO1.out, (HB2.out.alloc hsz _).trans hB1⟩
      case measure => simp [intOf]; omega
    · obtain rfl : j = k := by omega
      obtain ⟨a3, b3, c3, rfl, R1, -, -⟩ := hO.row
      rw [lnL_len] at R1 ⊢
      have hBw := below_after HB.out hB HB.out.size
      clear hO hB
      by_cases hs' : Spd aa bb
      · obtain ⟨M, hM⟩ : ∃ M : Nat, lenV j aa bb = (M : Int) := ⟨_, (lenV_fits hs' (by omega)).1⟩
        have hM3 : M ≤ 3840 := by have := lenV_small (n := j) hs' (by omega); rw [hM] at this; omega
        have hM2 : M ≤ 1000000 := by have := (lenV_fits (n := j) hs' (by omega)).2; rw [hM] at this; omega
        go_wp2_with fail
        refine (convert_ok _ b3 _ _ _ M (lnL s r j) _ _ _ R1 (by omega) hs' hM hM2).mono ?_; rintro e w1 ⟨v1, rfl, hO, hb⟩
        obtain ⟨a4, b4, c4, rfl, R2, -, -⟩ := hO.row
        rw [convL_len] at R2 ⊢
        replace hBw := below_after hBw hb hBw.size
        clear hb hO R1
        obtain ⟨⟨a1, a2⟩, ⟨b1, b2⟩, hg⟩ := hs'
        clear hg
        have HR := Lib.hid R2; clear R2
        have HBw := Lib.hid hBw; clear hBw
        go_wp2
        go_loopw [18, 19, 60] (fun _ _ i wr => ∃ p : Nat, p ≤ M ∧ i = .int .i64 p ∧ wr = w1) (fun _ _ i _ => M - (intOf i).toNat)
        case atStart => exact ⟨0, Nat.zero_le _, rfl, rfl⟩
        case round =>
          obtain ⟨p, hp, rfl, rfl⟩ := hrel
          by_cases hlt2 : p < M
          · obtain rfl := HR.out.adr (by omega)
            have hcell := HR.out.cel p hlt2
            have hy : (convL (lnL s r j) aa bb M).getD p 0 = smpI (lnL s r j) aa bb p := by
              unfold convL
              rw [List.getD_eq_getElem?_getD, List.getElem?_map, List.getElem?_range hlt2]
              rfl
            rw [hy, Nat.zero_add] at hcell
            obtain ⟨L1, L2⟩ := smp_line (n := j) (i := p) s1 s2 r1 r2 (by omega) a1 b1 (by rw [hM]; omega)
            obtain ⟨y1, y2⟩ := smp_range (lnL s r j) aa bb p b1
            have hp60 : p ≤ 3840 := by omega
            clear hy
            generalize smpI (lnL s r j) aa bb p = y at *
            have e1 := mul_bd (x := y) (y := bb) (X := 2147483648) (Y := 64) (by omega) (by omega) (by omega) b2 (by omega)
            have e2 := mul_bd (x := y + 1) (y := bb) (X := 2147483648) (Y := 64) (by omega) (by omega) (by omega) b2 (by omega)
            have e3 := mul_bd (x := s) (y := bb) (X := 1073741824) (Y := 64) (by omega) (by omega) (by omega) b2 (by omega)
            have e4 := mul_bd (x := r) (y := (p : Int)) (X := 16777216) (Y := 3840) (by omega) (by omega) (by omega) (by omega) (by omega)
            have e5 := mul_bd (x := r * (p : Int)) (y := aa) (X := 16777216 * 3840) (Y := 64) e4.1 e4.2 (by omega) a2 (by omega)
            have z1 : IntKind.i64.wrap (y * bb) = y * bb := by rw [IntKind.wrap_i64]; omega
            have z2 : IntKind.i64.wrap (s * bb) = s * bb := by rw [IntKind.wrap_i64]; omega
            have z3 : IntKind.i64.wrap (r * (p : Int)) = r * (p : Int) := by rw [IntKind.wrap_i64]; omega
            have z4 : IntKind.i64.wrap (r * (p : Int) * aa) = r * (p : Int) * aa := by rw [IntKind.wrap_i64]; omega
            have z5 : IntKind.i64.wrap (s * bb + r * (p : Int) * aa) = s * bb + r * (p : Int) * aa := by rw [IntKind.wrap_i64]; omega
            have z6 : IntKind.i64.wrap (y + 1) = y + 1 := by rw [IntKind.wrap_i64]; omega
            have z7 : IntKind.i64.wrap ((y + 1) * bb) = (y + 1) * bb := by rw [IntKind.wrap_i64]; omega
            have d1 : decide (s * bb + r * (p : Int) * aa < y * bb) = false := decide_eq_false (by omega)
            have d2 : decide ((y + 1) * bb ≤ s * bb + r * (p : Int) * aa) = false := decide_eq_false (by omega)
            go_wp2
            go_roundw
            case rel => exact ⟨p + 1, by omega, by go_num, trivial⟩
            case measure => simp [intOf]; omega
          · obtain rfl : p = M := by omega
            go_wp2
            go_ret
            exact ⟨rfl, HBw.out⟩
      · go_wp2_with fail
        refine (convert_no _ _ _ _ _ _ hs').mono ?_; rintro e w1 ⟨rfl, hb⟩
        replace hBw := below_after hBw hb hBw.size
        clear hb R1
        go_wp2
        go_ret
        exact ⟨rfl, hBw⟩
end Go.Proofs.Ytipjogicjgkgjaa
