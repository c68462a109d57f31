/- The walk of FadesEqual (layer 27). -/
import Derived.Test.YtagikfiiljdpnaaFadLawB
namespace Go.Proofs.Ytagikfiiljdpnaa
open Go.ChangeShapes Go.WideShapes Go.ChangeAt Go.RowKit

theorem gain_sum {k n : Int} (h0 : 0 ≤ k) (h1 : k < n) : gainV (n - 1 - k) n + gainV k n = 65536 ∨ gainV (n - 1 - k) n + gainV k n = 65535 := by
  unfold gainV
  have ea := Int.mul_ediv_add_emod ((n - 1 - k + 1) * 65536) (n + 1)
  have eb := Int.mul_ediv_add_emod ((k + 1) * 65536) (n + 1)
  have ra0 := Int.emod_nonneg ((n - 1 - k + 1) * 65536) (show n + 1 ≠ 0 by omega)
  have ra1 := Int.emod_lt_of_pos ((n - 1 - k + 1) * 65536) (show 0 < n + 1 by omega)
  have rb0 := Int.emod_nonneg ((k + 1) * 65536) (show n + 1 ≠ 0 by omega)
  have rb1 := Int.emod_lt_of_pos ((k + 1) * 65536) (show 0 < n + 1 by omega)
  generalize (n - 1 - k + 1) * 65536 / (n + 1) = qa at *
  generalize (k + 1) * 65536 / (n + 1) = qb at *
  generalize (n - 1 - k + 1) * 65536 % (n + 1) = ra at *
  generalize (k + 1) * 65536 % (n + 1) = rb at *
  have e : (n + 1) * (65536 - (qa + qb)) = ra + rb := by
    rw [Int.mul_sub, Int.mul_add]
    omega
  have t0 : 0 ≤ 65536 - (qa + qb) := by
    rcases Int.lt_or_le (65536 - (qa + qb)) 0 with h | h
    · have := Int.mul_le_mul_of_nonneg_left (show 65536 - (qa + qb) ≤ -1 by omega) (show 0 ≤ n + 1 by omega)
      omega
    · exact h
  have t1 : 65536 - (qa + qb) < 2 := by
    rcases Int.lt_or_le (65536 - (qa + qb)) 2 with h | h
    · exact h
    · have := Int.mul_le_mul_of_nonneg_left h (show 0 ≤ n + 1 by omega)
      omega
  omega
theorem gmul_in {v g : Int} (v1 : -2147483648 ≤ v) (v2 : v ≤ 2147483647) (g1 : 0 ≤ g) (g2 : g < 65536) : gmul v g = v * g / 65536 ∧ (0 ≤ v → 0 ≤ v * g ∧ v * g ≤ v * 65536) ∧ (v ≤ 0 → v * 65536 ≤ v * g ∧ v * g ≤ 0) := by
  have c1 : clip v = v := by unfold clip; omega
  have c2 : clip g = g := by unfold clip; omega
  have p1 : 0 ≤ v → 0 ≤ v * g ∧ v * g ≤ v * 65536 := fun h => ⟨Int.mul_nonneg h g1, Int.mul_le_mul_of_nonneg_left (by omega) h⟩
  have p2 : v ≤ 0 → v * 65536 ≤ v * g ∧ v * g ≤ 0 := fun h => ⟨Int.mul_le_mul_of_nonpos_left h (by omega), Int.mul_nonpos_of_nonpos_of_nonneg h g1⟩
  refine ⟨?_, p1, p2⟩
  unfold gmul
  rw [c1, c2]
  generalize v * g = p at *
  unfold clip
  omega
/-- How far the element of a crossfade is from the sample. -/
theorem mix_near {v : Int} {k M : Nat} (v1 : -2147483648 ≤ v) (v2 : v ≤ 2147483647) (hk : k < M) : mixV v v k M - v ≤ max v (-v) / 65536 + 3 ∧ -(max v (-v) / 65536) - 3 ≤ mixV v v k M - v ∧ -2147483648 ≤ mixV v v k M ∧ mixV v v k M ≤ 2147483647 := by
  have s := gain_sum (k := (k : Int)) (n := (M : Int)) (by omega) (by omega)
  have b1 := gainV_bd (i := (M : Int) - 1 - (k : Int)) (n := (M : Int)) (by omega) (by omega)
  have b2 := gainV_bd (i := (k : Int)) (n := (M : Int)) (by omega) (by omega)
  refine ⟨?_, ?_, clip_lo _, clip_hi _⟩
  all_goals
    unfold mixV
    rw [show ((M - 1 - k : Nat) : Int) = (M : Int) - 1 - (k : Int) by omega]
    obtain ⟨e1, p1, p2⟩ := gmul_in v1 v2 b1.1 b1.2
    obtain ⟨e2, p3, p4⟩ := gmul_in v1 v2 b2.1 b2.2
    rw [e1, e2]
    have e3 : v * gainV ((M : Int) - 1 - (k : Int)) M + v * gainV k M = v * 65536 ∨ v * gainV ((M : Int) - 1 - (k : Int)) M + v * gainV k M = v * 65535 := by
      rw [← Int.mul_add]
      rcases s with s | s
      · rw [s]; exact .inl rfl
      · rw [s]; exact .inr rfl
    generalize v * gainV ((M : Int) - 1 - (k : Int)) M = x at *
    generalize v * gainV k M = y at *
    unfold gadd clip
    omega
theorem rep_get {m j : Nat} {v : Int} (h : j < m) : (List.replicate m v)[j]? = some v := by rw [List.getElem?_replicate, if_pos h]
/-- The elements of a crossfade between equal samples. -/
theorem cross_near {v : Int} {m M i : Nat} (v1 : -2147483648 ≤ v) (v2 : v ≤ 2147483647) (hM : M ≤ m) (hi : i < m - M + m) :
    (crossL (List.replicate m v) (List.replicate m v) (m - M) M).getD i 0 - v ≤ max v (-v) / 65536 + 3 ∧ -(max v (-v) / 65536) - 3 ≤ (crossL (List.replicate m v) (List.replicate m v) (m - M) M).getD i 0 - v ∧
      -2147483648 ≤ (crossL (List.replicate m v) (List.replicate m v) (m - M) M).getD i 0 ∧ (crossL (List.replicate m v) (List.replicate m v) (m - M) M).getD i 0 ≤ 2147483647 := by
  have h : (crossL (List.replicate m v) (List.replicate m v) (m - M) M).getD i 0 = v ∨ ∃ k, k < M ∧ (crossL (List.replicate m v) (List.replicate m v) (m - M) M).getD i 0 = mixV v v k M := by
    unfold crossL
    rw [List.getD_eq_getElem?_getD, List.append_assoc]
    by_cases h1 : i < m - M
    · left
      rw [List.getElem?_append_left (by simp; omega), List.getElem?_take_of_lt h1, rep_get (by omega)]
      rfl
    · rw [List.getElem?_append_right (by simp; omega)]
      rw [show (List.take (m - M) (List.replicate m v)).length = m - M by simp]
      by_cases h2 : i - (m - M) < M
      · right
        refine ⟨i - (m - M), h2, ?_⟩
        rw [List.getElem?_append_left (by simpa using h2), List.getElem?_map, List.getElem?_range h2]
        simp only [Option.map_some, Option.getD_some]
        unfold mixL
        congr 1
        · rw [List.getD_eq_getElem?_getD, rep_get (by omega)]; rfl
        · rw [List.getD_eq_getElem?_getD, rep_get (by omega)]; rfl
      · left
        rw [List.getElem?_append_right (by simp; omega), List.length_map, List.length_range, List.getElem?_drop, rep_get (by omega)]
        rfl
  rcases h with h | ⟨k, hk, h⟩
  · rw [h]; omega
  · rw [h]; exact mix_near v1 v2 hk

set_option maxHeartbeats 2000000 in
theorem fadesEqual_walk (v n more : Int) (w : World) (v1 : -2147483648 ≤ v) (v2 : v ≤ 2147483647) (n1 : 0 ≤ n) (n2 : n ≤ 255) (m1 : 0 ≤ more) (m2 : more ≤ 255) :
    Calls Try.prog 9 #[.int .i32 v, .int .u8 n, .int .u8 more] w fun e w' => e = .returned (.bool true) ∧ Below w.heap.size w w' := by
  obtain ⟨M, rfl⟩ := Int.eq_ofNat_of_zero_le n1
  obtain ⟨q, rfl⟩ := Int.eq_ofNat_of_zero_le m1
  go_enter Try.func9, Try.ntmps9
  go_wp2_with fail
  refine (sane_any w).mono ?_; rintro e w1 ⟨rfl, hB⟩
  have c32 : ∀ x : Int, -2147483648 ≤ x → x ≤ 2147483647 → IntKind.i64.wrap x = x := fun x h1 h2 => by rw [IntKind.wrap_i64]; omega
  have cv : IntKind.i64.wrap v = v := c32 v v1 v2
  obtain ⟨r, hr⟩ : ∃ r, r = q % 8 := ⟨_, rfl⟩
  have hr8 : r < 8 := by omega
  go_wp2_with fail
  obtain ⟨m, hm⟩ : ∃ m, m = M + r := ⟨_, rfl⟩
  rw [show (q : Int) % 8 = (r : Int) by omega, show (M : Int) + (r : Int) = (m : Int) by omega]
  have hM : M ≤ m := by omega
  have hm2 : m ≤ 262 := by omega
  have HR := Lib.hid (show _ ∧ _ from ⟨hr, hm⟩); clear hr hm
  go_loopw [7, 22] (fun x i wr => ∃ k : Nat, k ≤ m ∧ i = .int .i64 k ∧ Ints wr w.heap.size x (List.replicate k v) ∧ Below w.heap.size w wr) (fun _ i _ => m - (intOf i).toNat)
  case atStart => exact ⟨0, Nat.zero_le _, rfl, Ints.nil _ _, hB⟩
  case round =>
    clear hB
    obtain ⟨k, hk, rfl, hO, hB⟩ := hrel
    by_cases hlt : k < m
    · have hs := hB.size
      have HB := Lib.hid hB; clear hB
      go_wp2_with (at_builtin; refine wpList_append_int rfl _ _ rfl w.heap.size _ _ rfl (hO.alloc _) _ _ rfl _ _ (blk_new _ _) (by rw [List.length_replicate]; omega) (by simp; omega) ?_; intro v' w2 hO1 hB1 hgx; clear hgx)
      have HO1 := Lib.hid hO1; clear hO1
      go_roundw
      case rel => exact ⟨k + 1, by omega, by go_num, by rw [List.replicate_succ']; exact HO1.out, (HB.out.alloc hs _).trans hB1⟩
      case measure => simp [intOf]; omega
    · obtain rfl : m = k := by omega
      obtain ⟨a2, b2, d2, rfl, R2, hd2, hn2⟩ := hO.rowN
      rw [List.length_replicate] at R2 hd2 ⊢
      clear hO
      go_wp2_with fail
      refine (cross_ok a2 a2 b2 0 b2 0 m m d2 d2 M _ _ _ R2 R2 (by omega) (by omega) (by omega) hd2 hd2 hn2 hn2).mono ?_; rintro e w4 ⟨x, rfl, hO, hb⟩
      obtain ⟨a3, b3, d3, rfl, R3, -, -⟩ := hO.row
      have lC : (crossL (List.replicate m v) (List.replicate m v) (m - M) M).length = r + m := by rw [crossL_len _ _ _ _ (by simp <;> omega) (by simp <;> omega)]; simp <;> (have := HR.out.2; omega)
      rw [lC] at R3 ⊢
      have hN := fun i (hi : i < r + m) => cross_near (v := v) (m := m) (M := M) (i := i) v1 v2 (by omega) (by have := HR.out.2; omega)
      generalize crossL (List.replicate m v) (List.replicate m v) (m - M) M = lc at *
      replace hB := below_after hB hb hB.size
      clear hb hO lC R2
      have HN := Lib.hid (show _ ∧ _ from ⟨hN, R3⟩); clear hN R3
      have hq8 : (q : Int) % 8 = (r : Int) := by have := HR.out.1; omega
      obtain ⟨tt, ht⟩ : ∃ tt, tt = r + m := ⟨_, rfl⟩
      have ht1 : (m : Int) + (r : Int) = (tt : Int) := by omega
      rw [← ht] at HN ⊢
      have htt : tt ≤ 300 := by omega
      have HTT := Lib.hid ht; clear ht
      rcases Int.lt_or_le v 0 with hv | hv
      · have w1 : max v (-v) = -v := by omega
        have w2 : v < -v := by omega
        have w3 : ¬ (-v ≤ v) := by omega
        rw [w1] at HN
        obtain ⟨Q, hQ⟩ : ∃ Q, Q = -v / 65536 := ⟨_, rfl⟩
        have q1 : (-v).tdiv 65536 = Q := by rw [Int.tdiv_eq_ediv_of_nonneg (by omega)]; exact hQ.symm
        have q2 : v.tdiv 65536 = -Q := by
          have := Int.neg_tdiv (-v) 65536
          rw [Int.neg_neg] at this
          rw [this, q1]
        have q0 : -v / 65536 = Q := hQ.symm
        rw [← hQ] at HN
        have q3 : 0 ≤ Q := by omega
        have q4 : Q ≤ 32768 := by omega
        have HQ := Lib.hid hQ; clear hQ
        go_wp2_with fail
        go_loopw [59] (fun i wr => ∃ k : Nat, k ≤ tt ∧ i = .int .i64 k ∧ Below w4.heap.size w4 wr) (fun i _ => tt - (intOf i).toNat)
        case atStart => exact ⟨0, Nat.zero_le _, rfl, Below.refl _ _⟩
        case round =>
          obtain ⟨k, hk, rfl, hB2⟩ := hrel
          by_cases hlt : k < tt
          · obtain rfl := HN.out.2.adr (by omega)
            have cy := (HN.out.2.below hB2 (Nat.le_refl _)).cel k hlt
            obtain ⟨f1, f2, f3, f4⟩ := HN.out.1 k hlt
            rw [Nat.zero_add] at cy
            generalize lc.getD k 0 = Y at *
            have g1 : ¬ (Q + 3 < Y - v) := by omega
            have g2 : ¬ (Y - v < -Q - 3) := by omega
            go_wp2
            go_roundw
            case rel => exact ⟨k + 1, by omega, by go_num, hB2⟩
            case measure => simp [intOf]; omega
          · obtain rfl : tt = k := by omega
            go_wp2
            go_ret
            exact ⟨rfl, below_after hB hB2 hB.size⟩
      · have w1 : max v (-v) = v := by omega
        have w2 : ¬ v < -v := by omega
        have w3 : -v ≤ v := by omega
        rw [w1] at HN
        obtain ⟨Q, hQ⟩ : ∃ Q, Q = v / 65536 := ⟨_, rfl⟩
        have q1 : v.tdiv 65536 = Q := by rw [Int.tdiv_eq_ediv_of_nonneg (by omega)]; exact hQ.symm
        have q2 : (-v).tdiv 65536 = -Q := by rw [Int.neg_tdiv, q1]
        have q0 : v / 65536 = Q := hQ.symm
        rw [← hQ] at HN
        have q3 : 0 ≤ Q := by omega
        have q4 : Q ≤ 32768 := by omega
        have HQ := Lib.hid hQ; clear hQ
        go_wp2_with fail
        go_loopw [59] (fun i wr => ∃ k : Nat, k ≤ tt ∧ i = .int .i64 k ∧ Below w4.heap.size w4 wr) (fun i _ => tt - (intOf i).toNat)
        case atStart => exact ⟨0, Nat.zero_le _, rfl, Below.refl _ _⟩
        case round =>
          obtain ⟨k, hk, rfl, hB2⟩ := hrel
          by_cases hlt : k < tt
          · obtain rfl := HN.out.2.adr (by omega)
            have cy := (HN.out.2.below hB2 (Nat.le_refl _)).cel k hlt
            obtain ⟨f1, f2, f3, f4⟩ := HN.out.1 k hlt
            rw [Nat.zero_add] at cy
            generalize lc.getD k 0 = Y at *
            have g1 : ¬ (Q + 3 < Y - v) := by omega
            have g2 : ¬ (Y - v < -Q - 3) := by omega
            go_wp2
            go_roundw
            case rel => exact ⟨k + 1, by omega, by go_num, hB2⟩
            case measure => simp [intOf]; omega
          · obtain rfl : tt = k := by omega
            go_wp2
            go_ret
            exact ⟨rfl, below_after hB hB2 hB.size⟩
end Go.Proofs.Ytagikfiiljdpnaa
