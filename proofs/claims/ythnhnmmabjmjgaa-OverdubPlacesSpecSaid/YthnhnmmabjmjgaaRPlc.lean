/- The reference's Places (layer 44). -/
import Derived.Test.YthnhnmmabjmjgaaPlc
namespace Go.Proofs.Ythnhnmmabjmjgaa
open Go.ChangeShapes Go.WideShapes Go.ChangeAt Go.RowKit Go.Shelf

set_option maxRecDepth 100000 in
set_option maxHeartbeats 8000000 in
theorem rplaces_any (a : Option Addr) (n cap b off : Nat) (l : List Dt) (D : List Int) (hD : D.length = 32) (w : World) (h : Ds w a n b off l) (hn : n ≤ 9223372036854775807) :
    Calls Try.prog 17 #[.slice a n cap, .agg (bV D)] w fun e w' => ∃ v, e = .returned (.tuple #[v, .int .i64 (plcS l).1]) ∧ PsO D w' w.heap.size v (plcS l).2 ∧ Below w.heap.size w w' := by
  obtain ⟨d0, d1, d2, d3, d4, d5, d6, d7, d8, d9, d10, d11, d12, d13, d14, d15, d16, d17, d18, d19, d20, d21, d22, d23, d24, d25, d26, d27, d28, d29, d30, d31, rfl⟩ := list32 hD
  replace hD : ([d0, d1, d2, d3, d4, d5, d6, d7, d8, d9, d10, d11, d12, d13, d14, d15, d16, d17, d18, d19, d20, d21, d22, d23, d24, d25, d26, d27, d28, d29, d30, d31] : List Int).length = 32 := rfl
  have hDV : bV [d0, d1, d2, d3, d4, d5, d6, d7, d8, d9, d10, d11, d12, d13, d14, d15, d16, d17, d18, d19, d20, d21, d22, d23, d24, d25, d26, d27, d28, d29, d30, d31] = #[.int .u8 d0, .int .u8 d1, .int .u8 d2, .int .u8 d3, .int .u8 d4, .int .u8 d5, .int .u8 d6, .int .u8 d7, .int .u8 d8, .int .u8 d9, .int .u8 d10, .int .u8 d11, .int .u8 d12, .int .u8 d13, .int .u8 d14, .int .u8 d15, .int .u8 d16, .int .u8 d17, .int .u8 d18, .int .u8 d19, .int .u8 d20, .int .u8 d21, .int .u8 d22, .int .u8 d23, .int .u8 d24, .int .u8 d25, .int .u8 d26, .int .u8 d27, .int .u8 d28, .int .u8 d29, .int .u8 d30, .int .u8 d31] := rfl
  rw [hDV]
  have hlen := h.1
  obtain ⟨W0, hW0⟩ : ∃ W0, W0 = w.alloc (.cells #[.int .u8 d0, .int .u8 d1, .int .u8 d2, .int .u8 d3, .int .u8 d4, .int .u8 d5, .int .u8 d6, .int .u8 d7, .int .u8 d8, .int .u8 d9, .int .u8 d10, .int .u8 d11, .int .u8 d12, .int .u8 d13, .int .u8 d14, .int .u8 d15, .int .u8 d16, .int .u8 d17, .int .u8 d18, .int .u8 d19, .int .u8 d20, .int .u8 d21, .int .u8 d22, .int .u8 d23, .int .u8 d24, .int .u8 d25, .int .u8 d26, .int .u8 d27, .int .u8 d28, .int .u8 d29, .int .u8 d30, .int .u8 d31] 34) := ⟨_, rfl⟩
  have hB0 : Below w.heap.size w W0 := by rw [hW0]; go_grown
  have hD0 : W0.heap[w.heap.size]? = some (.cells #[.int .u8 d0, .int .u8 d1, .int .u8 d2, .int .u8 d3, .int .u8 d4, .int .u8 d5, .int .u8 d6, .int .u8 d7, .int .u8 d8, .int .u8 d9, .int .u8 d10, .int .u8 d11, .int .u8 d12, .int .u8 d13, .int .u8 d14, .int .u8 d15, .int .u8 d16, .int .u8 d17, .int .u8 d18, .int .u8 d19, .int .u8 d20, .int .u8 d21, .int .u8 d22, .int .u8 d23, .int .u8 d24, .int .u8 d25, .int .u8 d26, .int .u8 d27, .int .u8 d28, .int .u8 d29, .int .u8 d30, .int .u8 d31] 34 (0, 0)) := by rw [hW0]; exact blk_new _ _
  have hsz0 : W0.heap.size ≤ w.heap.size + 1 := by rw [hW0]; simp
  have hM := h.grown hB0
  have ha := h.2.1
  clear h
  by_cases hn2 : 256 < n
  · rw [plcS_many (by rw [hlen]; exact hn2)]
    clear hM ha hD0
    go_enter Try.func17, Try.ntmps17
    go_upto_region 1 with fail
    rw [← hW0]
    clear hW0
    go_wp2
    exact bodyPost_ret (v := .tuple #[.slice none 0 0, .int .i64 2]) (by simp [results, Try.results17, go_sem]) rfl ⟨_, rfl, PsO.nil _ _ _, hB0⟩
  have HM := Lib.hid (show _ ∧ _ ∧ _ ∧ _ from ⟨hM, ha, hD0, hB0⟩)
  clear hM ha hD0 hB0
  go_enter Try.func17, Try.ntmps17
  go_upto_region 1 with fail
  rw [← hW0]
  clear hW0
  go_wp2
  go_loopw [6, 7] (fun s i wr => ∃ k : Nat, k ≤ n ∧ i = .int .i64 k ∧ PsO [d0, d1, d2, d3, d4, d5, d6, d7, d8, d9, d10, d11, d12, d13, d14, d15, d16, d17, d18, d19, d20, d21, d22, d23, d24, d25, d26, d27, d28, d29, d30, d31] wr (w.heap.size + 1) s (plTo l k) ∧ (∀ j, j < k → okPl (nthD l j)) ∧ wr.heap[w.heap.size]? = some (.cells #[.int .u8 d0, .int .u8 d1, .int .u8 d2, .int .u8 d3, .int .u8 d4, .int .u8 d5, .int .u8 d6, .int .u8 d7, .int .u8 d8, .int .u8 d9, .int .u8 d10, .int .u8 d11, .int .u8 d12, .int .u8 d13, .int .u8 d14, .int .u8 d15, .int .u8 d16, .int .u8 d17, .int .u8 d18, .int .u8 d19, .int .u8 d20, .int .u8 d21, .int .u8 d22, .int .u8 d23, .int .u8 d24, .int .u8 d25, .int .u8 d26, .int .u8 d27, .int .u8 d28, .int .u8 d29, .int .u8 d30, .int .u8 d31] 34 (0, 0)) ∧ Below W0.heap.size W0 wr ∧ Below w.heap.size w wr) (fun _ i _ => n - (intOf i).toNat)
  case atStart => exact ⟨0, Nat.zero_le _, rfl, PsO.nil _ _ _, fun j hj => by omega, HM.out.2.2.1, Below.refl _ _, HM.out.2.2.2⟩
  case round =>
    obtain ⟨k, hk, rfl, hO, hok, hd, hb0, hb⟩ := hrel
    by_cases hlt : k < n
    case neg =>
      obtain rfl : k = n := by omega
      have E0 := Lib.hid (plcS_yes (l := l) (by omega) (fun i hi => hok i (by omega)))
      have HR := Lib.hid (show _ ∧ _ from ⟨hO, hb⟩)
      clear hO hok hd hb0 hb
      go_wp2
      exact bodyPost_ret (v := .tuple #[u6, .int .i64 0]) (by simp [results, Try.results17, go_sem]) rfl ⟨u6, by rw [E0.out], by rw [E0.out, hlen]; exact HR.out.1.mono (by omega), HR.out.2⟩
    obtain ⟨rfl, hbw⟩ := HM.out.2.1 (by omega)
    obtain ⟨r0, r1, r2, r3⟩ := (HM.out.1.grown hb0).2.2 k hlt
    have hbad : ¬ okPl (nthD l k) → plcS l = (310, []) := fun hx => plcS_no (by omega) fun g => hx (g k (by omega))
    have hnx : okPl (nthD l k) → ∀ j, j < k + 1 → okPl (nthD l j) := fun hx j hj => by
      by_cases e : j = k
      · subst e; exact hx
      · exact hok j (by omega)
    have hps := plTo_succ l k
    have hpl := plTo_len l k
    generalize nthD l k = x at *
    obtain ⟨x0, x1, x2, x3⟩ := x
    dsimp only at r0 r1 r2 r3
    have HX := Lib.hid (show _ ∧ _ ∧ _ ∧ _ from ⟨hbad, hnx, hps, hpl⟩)
    obtain ⟨W2, hW2⟩ : ∃ W2, W2 = wr.alloc (.cells #[.int .i64 x0, .int .i64 x1, .int .i64 x2, .int .i64 x3] 52) := ⟨_, rfl⟩
    have hb2 : Below wr.heap.size wr W2 := by rw [hW2]; exact (Below.refl _ _).alloc (Nat.le_refl _) _
    have hx2 : W2.heap[wr.heap.size]? = some (.cells #[.int .i64 x0, .int .i64 x1, .int .i64 x2, .int .i64 x3] 52 (0, 0)) := by rw [hW2]; exact blk_new _ _
    have s0 := blk_cell hx2 0; have s1 := blk_cell hx2 1; have s2 := blk_cell hx2 2
    simp at s0 s1 s2
    have hsz := hb.size
    have hszr := hb2.size
    have hlx := (Array.getElem?_eq_some_iff.1 hx2).1
    have H2 := Lib.hid (show _ ∧ _ ∧ _ ∧ _ ∧ _ from ⟨below_after hb hb2 hsz, below_after hb0 hb2 hb0.size, blk_below hd hb2 (Array.getElem?_eq_some_iff.1 hd).1, hO.below hb2 (Nat.le_refl _), hx2⟩)
    clear hbad hnx hps hpl hO hok hd hb0 hb hb2 hx2
    by_cases q0 : x0 < 0
    · have E0 := Lib.hid (HX.out.1 fun h => by have h1 := h.1; dsimp only at h1; omega)
      have z0 : decide (x0 < 0) = true := decide_eq_true q0
      clear q0
      go_upto_region 8 with fail
      rw [← hW2]
      clear hW2 r0 r1 r2 r3
      go_wp2
      exact bodyPost_ret (v := .tuple #[.slice none 0 0, .int .i64 310]) (by simp [results, Try.results17, go_sem]) rfl ⟨.slice none 0 0, by rw [E0.out], by rw [E0.out]; exact PsO.nil _ _ _, H2.out.1⟩
    by_cases q1 : x0 > 16777216
    · have E0 := Lib.hid (HX.out.1 fun h => by have h1 := h.1; dsimp only at h1; omega)
      have z0 : decide (x0 < 0) = false := decide_eq_false q0
      have z1 : decide (x0 > 16777216) = true := decide_eq_true q1
      clear q0 q1
      go_upto_region 8 with fail
      rw [← hW2]
      clear hW2 r0 r1 r2 r3
      go_wp2
      exact bodyPost_ret (v := .tuple #[.slice none 0 0, .int .i64 310]) (by simp [results, Try.results17, go_sem]) rfl ⟨.slice none 0 0, by rw [E0.out], by rw [E0.out]; exact PsO.nil _ _ _, H2.out.1⟩
    by_cases q2 : x2 < 0
    · have E0 := Lib.hid (HX.out.1 fun h => by have h1 := h.2.1; dsimp only at h1; omega)
      have z0 : decide (x0 < 0) = false := decide_eq_false q0
      have z1 : decide (x0 > 16777216) = false := decide_eq_false q1
      have z2 : decide (x2 < 0) = true := decide_eq_true q2
      clear q0 q1 q2
      go_upto_region 8 with fail
      rw [← hW2]
      clear hW2 r0 r1 r2 r3
      go_wp2
      exact bodyPost_ret (v := .tuple #[.slice none 0 0, .int .i64 310]) (by simp [results, Try.results17, go_sem]) rfl ⟨.slice none 0 0, by rw [E0.out], by rw [E0.out]; exact PsO.nil _ _ _, H2.out.1⟩
    by_cases q3 : x2 > 16777216
    · have E0 := Lib.hid (HX.out.1 fun h => by have h1 := h.2.1; dsimp only at h1; omega)
      have z0 : decide (x0 < 0) = false := decide_eq_false q0
      have z1 : decide (x0 > 16777216) = false := decide_eq_false q1
      have z2 : decide (x2 < 0) = false := decide_eq_false q2
      have z3 : decide (x2 > 16777216) = true := decide_eq_true q3
      clear q0 q1 q2 q3
      go_upto_region 8 with fail
      rw [← hW2]
      clear hW2 r0 r1 r2 r3
      go_wp2
      exact bodyPost_ret (v := .tuple #[.slice none 0 0, .int .i64 310]) (by simp [results, Try.results17, go_sem]) rfl ⟨.slice none 0 0, by rw [E0.out], by rw [E0.out]; exact PsO.nil _ _ _, H2.out.1⟩
    by_cases q4 : x1 < 1
    · have E0 := Lib.hid (HX.out.1 fun h => by have h1 := h.2.2; dsimp only at h1; omega)
      have z0 : decide (x0 < 0) = false := decide_eq_false q0
      have z1 : decide (x0 > 16777216) = false := decide_eq_false q1
      have z2 : decide (x2 < 0) = false := decide_eq_false q2
      have z3 : decide (x2 > 16777216) = false := decide_eq_false q3
      have z4 : decide (x1 < 1) = true := decide_eq_true q4
      clear q0 q1 q2 q3 q4
      go_upto_region 8 with fail
      rw [← hW2]
      clear hW2 r0 r1 r2 r3
      go_wp2
      exact bodyPost_ret (v := .tuple #[.slice none 0 0, .int .i64 310]) (by simp [results, Try.results17, go_sem]) rfl ⟨.slice none 0 0, by rw [E0.out], by rw [E0.out]; exact PsO.nil _ _ _, H2.out.1⟩
    by_cases q5 : x1 > 16777216
    · have E0 := Lib.hid (HX.out.1 fun h => by have h1 := h.2.2; dsimp only at h1; omega)
      have z0 : decide (x0 < 0) = false := decide_eq_false q0
      have z1 : decide (x0 > 16777216) = false := decide_eq_false q1
      have z2 : decide (x2 < 0) = false := decide_eq_false q2
      have z3 : decide (x2 > 16777216) = false := decide_eq_false q3
      have z4 : decide (x1 < 1) = false := decide_eq_false q4
      have z5 : decide (x1 > 16777216) = true := decide_eq_true q5
      clear q0 q1 q2 q3 q4 q5
      go_upto_region 8 with fail
      rw [← hW2]
      clear hW2 r0 r1 r2 r3
      go_wp2
      exact bodyPost_ret (v := .tuple #[.slice none 0 0, .int .i64 310]) (by simp [results, Try.results17, go_sem]) rfl ⟨.slice none 0 0, by rw [E0.out], by rw [E0.out]; exact PsO.nil _ _ _, H2.out.1⟩
    have z0 : decide (x0 < 0) = false := decide_eq_false q0
    have z1 : decide (x0 > 16777216) = false := decide_eq_false q1
    have z2 : decide (x2 < 0) = false := decide_eq_false q2
    have z3 : decide (x2 > 16777216) = false := decide_eq_false q3
    have z4 : decide (x1 < 1) = false := decide_eq_false q4
    have z5 : decide (x1 > 16777216) = false := decide_eq_false q5
    have N := Lib.hid (HX.out.2.1 ⟨show 0 ≤ x0 ∧ x0 ≤ _ from ⟨by omega, by omega⟩, show 0 ≤ x2 ∧ x2 ≤ _ from ⟨by omega, by omega⟩, show 1 ≤ x1 from by omega, show x1 ≤ _ from by omega⟩)
    go_upto_region 8 with fail
    rw [← hW2]
    clear hW2 r0 r1 r2 r3
    go_upto_region 10 with fail
    clear z0 z1 z2 z3 z4 z5 q0 q1 q2 q3 q4 q5
    go_wp2_with (first | (with_reducible refine halt_at (o := ⟨some 55, _, _, _, _, _⟩) ?_))
    unfold Halt
    refine wpList_load_row rfl _ (.tmp 3) rfl w.heap.size rfl 34 #[.int .u8 d0, .int .u8 d1, .int .u8 d2, .int .u8 d3, .int .u8 d4, .int .u8 d5, .int .u8 d6, .int .u8 d7, .int .u8 d8, .int .u8 d9, .int .u8 d10, .int .u8 d11, .int .u8 d12, .int .u8 d13, .int .u8 d14, .int .u8 d15, .int .u8 d16, .int .u8 d17, .int .u8 d18, .int .u8 d19, .int .u8 d20, .int .u8 d21, .int .u8 d22, .int .u8 d23, .int .u8 d24, .int .u8 d25, .int .u8 d26, .int .u8 d27, .int .u8 d28, .int .u8 d29, .int .u8 d30, .int .u8 d31] (0, 0) _ H2.out.2.2.1 Try.underlying34 rfl (by kernel_rfl) ?_
    go_wp2_with (first | (with_reducible refine halt_at (o := ⟨some 63, _, _, _, _, _⟩) ?_))
    unfold Halt
    refine wpList_append_P rfl (.tmp 50) (.tmp 62) rfl [d0, d1, d2, d3, d4, d5, d6, d7, d8, d9, d10, d11, d12, d13, d14, d15, d16, d17, d18, d19, d20, d21, d22, d23, d24, d25, d26, d27, d28, d29, d30, d31] hD (w.heap.size + 1) _ (plTo l k) (by rfl) (H2.out.2.2.2.1.alloc _) W2.heap.size ((k : Int) + 1, x2, x0, x1) (by rfl) 43 (0, 0) (by exact blk_new _ _) (by rw [HX.out.2.2.2]; omega) (by rw [World.size_alloc]; omega) ?_
    intro v5 w5 hO5 hB5 _
    have hB5' : Below (w.heap.size + 1) W2 w5 := ((Below.refl _ _).alloc (by omega) _).trans hB5
    have hb5 : Below w.heap.size w w5 := H2.out.1.trans (hB5'.mono (by omega))
    have hb50 : Below W0.heap.size W0 w5 := H2.out.2.1.trans (hB5'.mono hsz0)
    have H5 := Lib.hid (show _ ∧ _ ∧ _ ∧ _ from ⟨hO5, hb5, hb50, blk_below H2.out.2.2.1 hB5' (by omega)⟩)
    clear hO5 hB5 hB5' hb5 hb50 s0 s1 s2
    go_wp2
    go_roundw
    case rel => exact ⟨k + 1, by omega, by go_num, by rw [HX.out.2.2.1, Int.natCast_succ]; exact H5.out.1, N.out, H5.out.2.2.2, H5.out.2.2.1, H5.out.2.1⟩
    case measure => simp [intOf]; omega
end Go.Proofs.Ythnhnmmabjmjgaa
