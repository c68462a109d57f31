/- NetworkLost (layer 6). -/
import Derived.Test.YthgbkdaimnejeaaNetFar
import Derived.Test.YthgbkdaimnejeaaDag
namespace Go.Proofs.Ythgbkdaimnejeaa
open Go.ChangeShapes Go.WideShapes Go.ChangeAt Go.RowKit Go.Sort Go.Shelf

set_option maxRecDepth 100000 in
set_option maxHeartbeats 8000000 in
theorem lost_walk (x : Sl × Sl) (L : List Pk) (A : List Qt) (at' : Int) (w : World) (h : NetV w x L A) (ha : 0 ≤ at' ∧ at' ≤ 18446744073709551615) :
    Calls Try.prog 8 #[vN x, .int .u64 at'] w fun e w' => e = .returned (.bool true) ∧ Below w.heap.size w w' := by
  obtain ⟨⟨a0, n0, c0⟩, ⟨b0, m0, d0⟩⟩ := x
  dsimp only [vN] at *
  have H0 := Lib.hid (show _ ∧ _ from ⟨Below.refl w.heap.size w, h⟩)
  clear h
  go_enter Try.func8, Try.ntmps8
  go_upto_region 1 with fail
  have hb := ((Below.refl w.heap.size w).alloc (Nat.le_refl _) (.cells #[.slice a0 n0 c0, .slice b0 m0 d0] 25))
  have H1 := Lib.hid (show _ ∧ _ ∧ _ from ⟨below_after H0.out.1 hb H0.out.1.size, H0.out.2.grown hb, blk_new w (.cells #[.slice a0 n0 c0, .slice b0 m0 d0] 25)⟩)
  clear H0
  clear hb
  generalize hzW1 : w.alloc (.cells #[.slice a0 n0 c0, .slice b0 m0 d0] 25) = W1 at *
  clear hzW1
  go_wp2_with fail
  refine (sane_any W1).mono ?_
  rintro e W2 ⟨rfl, hb⟩
  have H2 := Lib.hid (show _ ∧ _ ∧ _ from ⟨below_after H1.out.1 hb H1.out.1.size, H1.out.2.1.grown hb, blk_below H1.out.2.2 hb (Array.getElem?_eq_some_iff.1 H1.out.2.2).1⟩)
  clear H1
  clear hb
  have x00 := blk_cell H2.out.2.2 0
  have x01 := blk_cell H2.out.2.2 1
  simp at x00 x01
  go_wp2_with fail
  clear x00 x01
  refine (few_s ((a0, n0, c0), (b0, m0, d0)) L A W2 H2.out.2.1).mono ?_
  rintro e W3 ⟨rfl, hb⟩
  have H3 := Lib.hid (show _ ∧ _ ∧ _ from ⟨below_after H2.out.1 hb H2.out.1.size, H2.out.2.1.grown hb, blk_below H2.out.2.2 hb (Array.getElem?_eq_some_iff.1 H2.out.2.2).1⟩)
  clear H2
  clear hb
  by_cases hfew : L.length ≤ 40 ∧ A.length ≤ 40
  case neg =>
    rw [decide_eq_false hfew]
    clear hfew
    go_wp2
    exact bodyPost_ret (v := .bool true) (by simp [results, Try.results8, go_sem]) rfl ⟨rfl, H3.out.1⟩
  rw [decide_eq_true hfew]
  have hl40 := hfew.1
  clear hfew
  have x00 := blk_cell H3.out.2.2 0
  have x01 := blk_cell H3.out.2.2 1
  simp at x00 x01
  go_wp2_with fail
  clear x00 x01
  refine (check_s ((a0, n0, c0), (b0, m0, d0)) L A W3 H3.out.2.1).mono ?_
  rintro e W4 ⟨rfl, hb⟩
  have H4 := Lib.hid (show _ ∧ _ ∧ _ from ⟨below_after H3.out.1 hb H3.out.1.size, H3.out.2.1.grown hb, blk_below H3.out.2.2 hb (Array.getElem?_eq_some_iff.1 H3.out.2.2).1⟩)
  clear H3
  clear hb
  by_cases hN : NOk L A
  case neg =>
    rw [chkS_no hN]
    clear hN
    go_wp2
    exact bodyPost_ret (v := .bool true) (by simp [results, Try.results8, go_sem]) rfl ⟨rfl, H4.out.1⟩
  rw [chkS_yes hN]
  have HN := Lib.hid hN
  clear hN
  have HLN := Lib.hid (show n0 = L.length from H4.out.2.1.lenQ)
  have hn40 : n0 ≤ 40 := by rw [HLN.out]; exact hl40
  clear hl40
  have x0 := blk_cell H4.out.2.2 0
  have x1 := blk_cell H4.out.2.2 1
  simp at x0 x1
  by_cases hz : n0 = 0
  · have z : ((n0 : Int) == 0) = true := by simp; omega
    clear hz
    go_wp2
    exact bodyPost_ret (v := .bool true) (by simp [results, Try.results8, go_sem]) rfl ⟨rfl, H4.out.1⟩
  have z : ((n0 : Int) == 0) = false := by simp; omega
  have hz' : ¬ (n0 : Int) = 0 := by omega
  obtain ⟨k, hk, hke⟩ : ∃ k : Nat, k < n0 ∧ at' % (n0 : Int) = k := ⟨(at' % (n0 : Int)).toNat, by have h1 := Int.emod_nonneg at' hz'; have h2 := Int.emod_lt_of_pos at' (show (0 : Int) < n0 by omega); omega, by have h1 := Int.emod_nonneg at' hz'; omega⟩
  have hw : wrap64 (at' % (n0 : Int)) = (k : Int) := by rw [hke]; unfold wrap64; omega
  clear hke
  have hkL : k < L.length := by rw [← HLN.out]; exact hk
  have HKL := Lib.hid hkL
  clear hkL
  go_upto_region 6 with fail
  simp only [hw]
  clear hw hz z hz' x0 x1
  have ha1 : askS L A k = 0 := by unfold askS; rw [if_pos HN.out, if_pos (by have := HKL.out; omega)]
  have hlo : loseS L A k = (0, L.eraseIdx k, A) := by unfold loseS; rw [if_pos ha1, Int.toNat_natCast]
  have hre : repS L A k = (0, L ++ [L.getD k zP], A) := by unfold repS; rw [if_pos ha1, if_neg (by rw [← HLN.out]; omega), Int.toNat_natCast]
  obtain ⟨p, hp⟩ : ∃ p, p = L.getD k zP := ⟨_, rfl⟩
  rw [← hp] at hre
  have hpm : p ∈ L := by rw [hp, List.getD_eq_getElem?_getD, List.getElem?_eq_getElem HKL.out]; exact List.getElem_mem _
  have hN2 : NOk (L ++ [p]) A := ⟨by rw [List.length_append, ← HLN.out]; simp; omega, fun m hm => by
    rcases List.mem_append.1 hm with h | h
    · exact HN.out.2.1 m h
    · rw [List.mem_singleton.1 h]; exact HN.out.2.1 p hpm, HN.out.2.2⟩
  have ha2 : askS (L ++ [p]) A k = 0 := by unfold askS; rw [if_pos hN2, if_pos (by rw [List.length_append]; have := HKL.out; omega)]
  have hl2 : loseS (L ++ [p]) A k = (0, L.eraseIdx k ++ [p], A) := by unfold loseS; rw [if_pos ha2, Int.toNat_natCast, List.eraseIdx_append_of_lt_length HKL.out]
  have hN3 : NOk (L.eraseIdx k) A := ⟨Nat.le_trans (List.length_eraseIdx_le L k) HN.out.1, fun m hm => HN.out.2.1 m (List.mem_of_mem_eraseIdx hm), HN.out.2.2⟩
  have hse : sendS (L.eraseIdx k) A p = (0, L.eraseIdx k ++ [p], A) := by
    unfold sendS
    rw [if_pos ⟨hN3, HN.out.2.1 p hpm⟩, if_neg]
    have := List.length_eraseIdx_le L k
    rw [← HLN.out] at this; omega
  have HS := Lib.hid (show _ ∧ _ ∧ _ ∧ _ ∧ _ ∧ _ from ⟨ha1, hlo, hre, hl2, hse, hp⟩)
  clear ha1 hlo hre hpm hN2 ha2 hl2 hN3 hse hp
  have x00 := blk_cell H4.out.2.2 0
  have x01 := blk_cell H4.out.2.2 1
  simp at x00 x01
  go_wp2_with fail
  clear x00 x01
  refine (deliver_s ((a0, n0, c0), (b0, m0, d0)) L A k W4 H4.out.2.1).mono ?_
  rintro e W5 ⟨⟨k10, k11, ka1, kn1, kc1⟩, ⟨⟨a1, n1, c1⟩, ⟨b1, m1, d1⟩⟩, rfl, hK, hN, hb⟩
  rw [HS.out.2.1] at hN
  simp only [HS.out.1]
  clear hK
  have H5 := Lib.hid (show _ ∧ _ ∧ _ ∧ _ from ⟨below_after H4.out.1 hb H4.out.1.size, H4.out.2.1.grown hb, blk_below H4.out.2.2 hb (Array.getElem?_eq_some_iff.1 H4.out.2.2).1, hN⟩)
  clear H4
  clear hb
  dsimp only [vK, vN] at *
  clear hN
  go_upto_region 7 with fail
  have hb : Below W5.heap.size W5 ((W5.alloc (.cells #[.int .i64 k10, .int .i64 k11, .slice ka1 kn1 kc1] 28)).alloc (.cells #[.slice a1 n1 c1, .slice b1 m1 d1] 25)) := by go_grown
  have hk1 : ((W5.alloc (.cells #[.int .i64 k10, .int .i64 k11, .slice ka1 kn1 kc1] 28)).alloc (.cells #[.slice a1 n1 c1, .slice b1 m1 d1] 25)).heap[W5.heap.size]? = some (.cells #[.int .i64 k10, .int .i64 k11, .slice ka1 kn1 kc1] 28 (0, 0)) := blk_alloc (blk_new _ _) _
  have hk2 : ((W5.alloc (.cells #[.int .i64 k10, .int .i64 k11, .slice ka1 kn1 kc1] 28)).alloc (.cells #[.slice a1 n1 c1, .slice b1 m1 d1] 25)).heap[W5.heap.size + 1]? = some (.cells #[.slice a1 n1 c1, .slice b1 m1 d1] 25 (0, 0)) := by have := blk_new (W5.alloc (.cells #[.int .i64 k10, .int .i64 k11, .slice ka1 kn1 kc1] 28)) (.cells #[.slice a1 n1 c1, .slice b1 m1 d1] 25); rwa [World.size_alloc] at this
  have H6 := Lib.hid (show _ ∧ _ ∧ _ ∧ _ ∧ _ ∧ _ from ⟨below_after H5.out.1 hb H5.out.1.size, H5.out.2.1.grown hb, blk_below H5.out.2.2.1 hb (Array.getElem?_eq_some_iff.1 H5.out.2.2.1).1, H5.out.2.2.2.grown hb, hk1, hk2⟩)
  clear H5
  clear hb hk1 hk2
  generalize hzW6 : ((W5.alloc (.cells #[.int .i64 k10, .int .i64 k11, .slice ka1 kn1 kc1] 28)).alloc (.cells #[.slice a1 n1 c1, .slice b1 m1 d1] 25)) = W6 at *
  clear hzW6
  have x00 := blk_cell H6.out.2.2.1 0
  have x01 := blk_cell H6.out.2.2.1 1
  simp at x00 x01
  go_wp2_with fail
  clear x00 x01
  refine (lose_s ((a0, n0, c0), (b0, m0, d0)) L A k W6 H6.out.2.1).mono ?_
  rintro e W7 ⟨⟨⟨a2, n2, c2⟩, ⟨b2, m2, d2⟩⟩, rfl, hN, hb⟩
  rw [HS.out.2.1] at hN
  simp only [HS.out.2.1]
  have H7 := Lib.hid (show _ ∧ _ ∧ _ ∧ _ ∧ _ ∧ _ ∧ _ from ⟨below_after H6.out.1 hb H6.out.1.size, H6.out.2.1.grown hb, blk_below H6.out.2.2.1 hb (Array.getElem?_eq_some_iff.1 H6.out.2.2.1).1, H6.out.2.2.2.1.grown hb, blk_below H6.out.2.2.2.2.1 hb (Array.getElem?_eq_some_iff.1 H6.out.2.2.2.2.1).1, blk_below H6.out.2.2.2.2.2 hb (Array.getElem?_eq_some_iff.1 H6.out.2.2.2.2.2).1, hN⟩)
  clear H6
  clear hb
  dsimp only [vN] at *
  clear hN
  go_upto_region 8 with fail
  have hb := ((Below.refl W7.heap.size W7).alloc (Nat.le_refl _) (.cells #[.slice a2 n2 c2, .slice b2 m2 d2] 25))
  have H8 := Lib.hid (show _ ∧ _ ∧ _ ∧ _ ∧ _ ∧ _ ∧ _ ∧ _ from ⟨below_after H7.out.1 hb H7.out.1.size, H7.out.2.1.grown hb, blk_below H7.out.2.2.1 hb (Array.getElem?_eq_some_iff.1 H7.out.2.2.1).1, H7.out.2.2.2.1.grown hb, blk_below H7.out.2.2.2.2.1 hb (Array.getElem?_eq_some_iff.1 H7.out.2.2.2.2.1).1, blk_below H7.out.2.2.2.2.2.1 hb (Array.getElem?_eq_some_iff.1 H7.out.2.2.2.2.2.1).1, H7.out.2.2.2.2.2.2.grown hb, blk_new W7 (.cells #[.slice a2 n2 c2, .slice b2 m2 d2] 25)⟩)
  clear H7
  clear hb
  generalize hzW8 : W7.alloc (.cells #[.slice a2 n2 c2, .slice b2 m2 d2] 25) = W8 at *
  clear hzW8
  have x00 := blk_cell H8.out.2.2.1 0
  have x01 := blk_cell H8.out.2.2.1 1
  simp at x00 x01
  go_wp2_with fail
  clear x00 x01
  refine (repeat_s ((a0, n0, c0), (b0, m0, d0)) L A k W8 H8.out.2.1).mono ?_
  rintro e W9 ⟨⟨⟨a3, n3, c3⟩, ⟨b3, m3, d3⟩⟩, rfl, hN, hb⟩
  rw [HS.out.2.2.1] at hN
  simp only [HS.out.2.2.1]
  have H9 := Lib.hid (show _ ∧ _ ∧ _ ∧ _ ∧ _ ∧ _ ∧ _ ∧ _ ∧ _ from ⟨below_after H8.out.1 hb H8.out.1.size, H8.out.2.1.grown hb, blk_below H8.out.2.2.1 hb (Array.getElem?_eq_some_iff.1 H8.out.2.2.1).1, H8.out.2.2.2.1.grown hb, blk_below H8.out.2.2.2.2.1 hb (Array.getElem?_eq_some_iff.1 H8.out.2.2.2.2.1).1, blk_below H8.out.2.2.2.2.2.1 hb (Array.getElem?_eq_some_iff.1 H8.out.2.2.2.2.2.1).1, H8.out.2.2.2.2.2.2.1.grown hb, blk_below H8.out.2.2.2.2.2.2.2 hb (Array.getElem?_eq_some_iff.1 H8.out.2.2.2.2.2.2.2).1, hN⟩)
  clear H8
  clear hb
  dsimp only [vN] at *
  clear hN
  go_upto_region 9 with fail
  have hb := ((Below.refl W9.heap.size W9).alloc (Nat.le_refl _) (.cells #[.slice a3 n3 c3, .slice b3 m3 d3] 25))
  have H10 := Lib.hid (show _ ∧ _ ∧ _ ∧ _ ∧ _ ∧ _ ∧ _ ∧ _ ∧ _ ∧ _ from ⟨below_after H9.out.1 hb H9.out.1.size, H9.out.2.1.grown hb, blk_below H9.out.2.2.1 hb (Array.getElem?_eq_some_iff.1 H9.out.2.2.1).1, H9.out.2.2.2.1.grown hb, blk_below H9.out.2.2.2.2.1 hb (Array.getElem?_eq_some_iff.1 H9.out.2.2.2.2.1).1, blk_below H9.out.2.2.2.2.2.1 hb (Array.getElem?_eq_some_iff.1 H9.out.2.2.2.2.2.1).1, H9.out.2.2.2.2.2.2.1.grown hb, blk_below H9.out.2.2.2.2.2.2.2.1 hb (Array.getElem?_eq_some_iff.1 H9.out.2.2.2.2.2.2.2.1).1, H9.out.2.2.2.2.2.2.2.2.grown hb, blk_new W9 (.cells #[.slice a3 n3 c3, .slice b3 m3 d3] 25)⟩)
  clear H9
  clear hb
  generalize hzW10 : W9.alloc (.cells #[.slice a3 n3 c3, .slice b3 m3 d3] 25) = W10 at *
  clear hzW10
  have x00 := blk_cell H10.out.2.2.2.2.2.2.2.2.2 0
  have x01 := blk_cell H10.out.2.2.2.2.2.2.2.2.2 1
  simp at x00 x01
  go_wp2_with fail
  clear x00 x01
  refine (lose_s ((a3, n3, c3), (b3, m3, d3)) (L ++ [p]) A k W10 H10.out.2.2.2.2.2.2.2.2.1).mono ?_
  rintro e W11 ⟨⟨⟨a4, n4, c4⟩, ⟨b4, m4, d4⟩⟩, rfl, hN, hb⟩
  rw [HS.out.2.2.2.1] at hN
  simp only [HS.out.2.2.2.1]
  have H11 := Lib.hid (show _ ∧ _ ∧ _ ∧ _ ∧ _ ∧ _ ∧ _ ∧ _ ∧ _ ∧ _ ∧ _ from ⟨below_after H10.out.1 hb H10.out.1.size, H10.out.2.1.grown hb, blk_below H10.out.2.2.1 hb (Array.getElem?_eq_some_iff.1 H10.out.2.2.1).1, H10.out.2.2.2.1.grown hb, blk_below H10.out.2.2.2.2.1 hb (Array.getElem?_eq_some_iff.1 H10.out.2.2.2.2.1).1, blk_below H10.out.2.2.2.2.2.1 hb (Array.getElem?_eq_some_iff.1 H10.out.2.2.2.2.2.1).1, H10.out.2.2.2.2.2.2.1.grown hb, blk_below H10.out.2.2.2.2.2.2.2.1 hb (Array.getElem?_eq_some_iff.1 H10.out.2.2.2.2.2.2.2.1).1, H10.out.2.2.2.2.2.2.2.2.1.grown hb, blk_below H10.out.2.2.2.2.2.2.2.2.2 hb (Array.getElem?_eq_some_iff.1 H10.out.2.2.2.2.2.2.2.2.2).1, hN⟩)
  clear H10
  clear hb
  dsimp only [vN] at *
  clear hN
  go_upto_region 10 with fail
  have hb := ((Below.refl W11.heap.size W11).alloc (Nat.le_refl _) (.cells #[.slice a4 n4 c4, .slice b4 m4 d4] 25))
  have H12 := Lib.hid (show _ ∧ _ ∧ _ ∧ _ ∧ _ ∧ _ ∧ _ ∧ _ ∧ _ ∧ _ ∧ _ ∧ _ from ⟨below_after H11.out.1 hb H11.out.1.size, H11.out.2.1.grown hb, blk_below H11.out.2.2.1 hb (Array.getElem?_eq_some_iff.1 H11.out.2.2.1).1, H11.out.2.2.2.1.grown hb, blk_below H11.out.2.2.2.2.1 hb (Array.getElem?_eq_some_iff.1 H11.out.2.2.2.2.1).1, blk_below H11.out.2.2.2.2.2.1 hb (Array.getElem?_eq_some_iff.1 H11.out.2.2.2.2.2.1).1, H11.out.2.2.2.2.2.2.1.grown hb, blk_below H11.out.2.2.2.2.2.2.2.1 hb (Array.getElem?_eq_some_iff.1 H11.out.2.2.2.2.2.2.2.1).1, H11.out.2.2.2.2.2.2.2.2.1.grown hb, blk_below H11.out.2.2.2.2.2.2.2.2.2.1 hb (Array.getElem?_eq_some_iff.1 H11.out.2.2.2.2.2.2.2.2.2.1).1, H11.out.2.2.2.2.2.2.2.2.2.2.grown hb, blk_new W11 (.cells #[.slice a4 n4 c4, .slice b4 m4 d4] 25)⟩)
  clear H11
  clear hb
  generalize hzW12 : W11.alloc (.cells #[.slice a4 n4 c4, .slice b4 m4 d4] 25) = W12 at *
  clear hzW12
  obtain ⟨kk, PK, qb, qo, rfl, j0, j1, j2⟩ : ∃ kk : Kt, PkV W12 kk p ∧ ∃ qb qo, a0 = some ⟨qb, qo, none⟩ ∧ W12.cell? ⟨qb, qo + k * 3, none⟩ = some (.int .i64 kk.1) ∧ W12.cell? ⟨qb, qo + k * 3 + 1, none⟩ = some (.int .i64 kk.2.1) ∧ W12.cell? ⟨qb, qo + k * 3 + 2, none⟩ = some (.slice kk.2.2.1 kk.2.2.2.1 kk.2.2.2.2) := by
    obtain ⟨qb, qo, Q, D, pb, po, h1, h2, h3, h4⟩ := H12.out.2.1.ex
    have hkQ : k < Q.length := by rw [h1.1]; exact hk
    obtain ⟨c0, c1, c2⟩ := h1.2.2 k hk
    refine ⟨nthK Q k, ⟨nthD D k, h2.dat k hkQ, ?_⟩, qb, qo, (h1.2.1 (Nat.lt_of_le_of_lt (Nat.zero_le _) hk)).1, c0, c1, c2⟩
    rw [HS.out.2.2.2.2.2, ← h3, getD_pk h2.len hkQ]
  obtain ⟨k0, k1, ka, kn, kc⟩ := kk
  dsimp only at j0 j1 j2
  have HPK := Lib.hid PK
  clear PK
  have y0 := blk_cell H12.out.2.2.2.2.2.2.2.1 0
  have y1 := blk_cell H12.out.2.2.2.2.2.2.2.1 1
  simp at y0 y1
  have x0 := blk_cell H12.out.2.2.1 0
  have x1 := blk_cell H12.out.2.2.1 1
  simp at x0 x1
  refine wp_region_dagT 11 [Nd.lit 0 66 (.agg #[.slice a2 n2 c2, .slice b2 m2 d2]),
      Nd.lit 1 67 (.pointer (some ⟨w.heap.size, 0, none⟩)),
      Nd.lit 2 68 (.slice (some ⟨qb, qo, none⟩) n0 c0) [1],
      Nd.lit 3 69 (.int .i64 k),
      Nd.lit 4 70 (.pointer (some ⟨qb, qo + k * 3, none⟩)) [2, 3],
      Nd.lit 5 71 (.agg #[.int .i64 k0, .int .i64 k1, .slice ka kn kc]) [4],
      ⟨6, 72, [0, 5], fun v w' => ∃ x : Sl × Sl, v = .tuple #[vN x, .int .i64 0] ∧ NetV w' x (L.eraseIdx k ++ [p]) A, fun _ _ _ hb h => by
        obtain ⟨x, h1, h2⟩ := h
        exact ⟨x, h1, h2.grown hb⟩, false⟩,
      ⟨7, 65, [6], fun v w' => ∃ x : Sl × Sl, v = .tuple #[vN x, .int .i64 0] ∧ NetV w' x (L.eraseIdx k ++ [p]) A, fun _ _ _ hb h => by
        obtain ⟨x, h1, h2⟩ := h
        exact ⟨x, h1, h2.grown hb⟩, false⟩,
      ⟨8, 73, [7], fun v w' => ∃ x : Sl × Sl, v = vN x ∧ NetV w' x (L.eraseIdx k ++ [p]) A, fun _ _ _ hb h => by
        obtain ⟨x, h1, h2⟩ := h
        exact ⟨x, h1, h2.grown hb⟩, false⟩,
      Nd.late 9 74 (.int .i64 0) [7],
      ⟨10, 15, [], fun v w' => ∃ g, v = .pointer (some ⟨g, 0, none⟩) ∧ w'.heap[g]? = some (.cells #[.slice none 0 0, .slice none 0 0] 25 (0, 0)) ∧ W12.heap.size ≤ g, fun _ _ _ hb h => by
        obtain ⟨g, h1, h2, h3⟩ := h
        exact ⟨g, h1, blk_below h2 hb (Array.getElem?_eq_some_iff.1 h2).1, h3⟩, false⟩] (by kernel_rfl) (by kernel_rfl) (by rfl) (by kernel_rfl) (by kernel_rfl) (by kernel_rfl) (by rintro _ _ _ (_ | _) _ h <;> exact h) ?_ ?_
  · refine ⟨?_, ?_, ?_, ?_, ?_, ?_, ?_, ?_, ?_, ?_, ?_, trivial⟩
    · unfold ObN
      simp only [List.getElem?_toArray, List.getElem?_cons_zero]
      intro w' hC
      refine Or.inl ⟨rfl, fun K' Q' hK => ?_⟩
      have y0 := cell_bel hC y0
      have y1 := cell_bel hC y1
      go_simp
      exact hK _ _ (Below.refl _ _) rfl
    · unfold ObN
      simp only [List.getElem?_toArray, List.getElem?_cons_succ, List.getElem?_cons_zero]
      intro w' hC
      refine Or.inl ⟨rfl, fun K' Q' hK => ?_⟩
      go_simp
      exact hK _ _ (Below.refl _ _) rfl
    · unfold ObN
      simp only [List.getElem?_toArray, List.getElem?_cons_succ, List.getElem?_cons_zero]
      intro w' hC
      rintro _ rfl
      refine Or.inl ⟨rfl, fun K' Q' hK => ?_⟩
      have y0 := cell_bel hC x0
      go_simp
      exact hK _ _ (Below.refl _ _) rfl
    · unfold ObN
      simp only [List.getElem?_toArray, List.getElem?_cons_succ, List.getElem?_cons_zero]
      intro w' hC
      refine Or.inl ⟨rfl, fun K' Q' hK => ?_⟩
      go_simp
      exact hK _ _ (Below.refl _ _) rfl
    · unfold ObN
      simp only [List.getElem?_toArray, List.getElem?_cons_succ, List.getElem?_cons_zero]
      intro w' hC
      rintro _ rfl
      rintro _ rfl
      refine Or.inl ⟨rfl, fun K' Q' hK => ?_⟩
      go_simp
      exact hK _ _ (Below.refl _ _) rfl
    · unfold ObN
      simp only [List.getElem?_toArray, List.getElem?_cons_succ, List.getElem?_cons_zero]
      intro w' hC
      rintro _ rfl
      refine Or.inl ⟨rfl, fun K' Q' hK => ?_⟩
      have y0 := cell_bel hC j0
      have y1 := cell_bel hC j1
      have y2 := cell_bel hC j2
      go_simp
      exact hK _ _ (Below.refl _ _) rfl
    · unfold ObN
      simp only [List.getElem?_toArray, List.getElem?_cons_succ, List.getElem?_cons_zero]
      intro w' hC
      rintro _ rfl
      rintro _ rfl
      refine Or.inl ⟨rfl, fun K' Q' hK => ?_⟩
      go_simp
      refine (send_s ((a2, n2, c2), (b2, m2, d2)) (L.eraseIdx k) A (k0, k1, ka, kn, kc) p w' (H12.out.2.2.2.2.2.2.1.grown hC) (HPK.out.grown hC)).mono ?_
      rintro e w2 ⟨⟨⟨a5, n5, c5⟩, ⟨b5, m5, d5⟩⟩, rfl, hN, hb⟩
      rw [HS.out.2.2.2.2.1] at hN ⊢
      exact hK _ _ hb ⟨_, rfl, hN⟩
    · unfold ObN
      simp only [List.getElem?_toArray, List.getElem?_cons_succ, List.getElem?_cons_zero]
      intro w' hC
      rintro _ ⟨x5, rfl, hN5⟩
      refine Or.inl ⟨rfl, fun K' Q' hK => ?_⟩
      go_simp
      exact hK _ _ (Below.refl _ _) ⟨x5, rfl, hN5⟩
    · unfold ObN
      simp only [List.getElem?_toArray, List.getElem?_cons_succ, List.getElem?_cons_zero]
      intro w' hC
      rintro _ ⟨x5, rfl, hN5⟩
      refine Or.inl ⟨rfl, fun K' Q' hK => ?_⟩
      go_simp
      exact hK _ _ (Below.refl _ _) ⟨x5, rfl, hN5⟩
    · unfold ObN
      simp only [List.getElem?_toArray, List.getElem?_cons_succ, List.getElem?_cons_zero]
      intro w' hC
      rintro _ ⟨x5, rfl, hN5⟩
      refine ⟨by first | rfl | trivial, _, fun _ => rfl, fun w9 => ?_⟩
      go_simp
    · unfold ObN
      simp only [List.getElem?_toArray, List.getElem?_cons_succ, List.getElem?_cons_zero]
      intro w' hC
      refine Or.inl ⟨rfl, fun K' Q' hK => ?_⟩
      go_simp
      exact hK _ _ (by go_grown) ⟨_, rfl, blk_new _ _, hC.size⟩
  · intro w' hC
    rintro _ rfl _ rfl _ rfl _ rfl _ rfl _ rfl v6 ⟨x6, rfl, -⟩ v7 ⟨x7, rfl, -⟩ v8 ⟨x8, rfl, hN8⟩ _ rfl v10 ⟨g, rfl, hg, hgs⟩
    obtain ⟨⟨a5, n5, c5⟩, ⟨b5, m5, d5⟩⟩ := x8
    unfold overN
    simp only [List.drop_succ_cons, List.drop_zero, Act.put, List.setIfInBounds_toArray, List.set_cons_succ, List.set_cons_zero]
    have e0 := blk_cell hg 0; have e1 := blk_cell hg 1; have f0 := blk_free hg 0; have f1 := blk_free hg 1
    simp at e0 e1
    clear y0 y1 x0 x1 j0 j1 j2
    go_upto_region 11 with fail
    clear e0 e1 f0 f1
    have hb : Below W12.heap.size W12 ((w'.setCell ⟨g, 0, none⟩ (.slice a5 n5 c5)).setCell ⟨g, 1, none⟩ (.slice b5 m5 d5)) := boxQ_below hgs hC
    have hk5 := boxQ_set (u0 := .slice a5 n5 c5) (u1 := .slice b5 m5 d5) hg
    have hn5 := hN8.box (a' := a5) (b' := n5) (c' := c5) (d' := b5) (e' := m5) (f' := d5) hg
    have Hq51 := Lib.hid (show _ ∧ _ ∧ _ ∧ _ ∧ _ ∧ _ ∧ _ ∧ _ ∧ _ ∧ _ ∧ _ ∧ _ ∧ _ ∧ _ from ⟨below_after H12.out.1 hb H12.out.1.size, H12.out.2.1.grown hb, blk_below H12.out.2.2.1 hb (Array.getElem?_eq_some_iff.1 H12.out.2.2.1).1, H12.out.2.2.2.1.grown hb, blk_below H12.out.2.2.2.2.1 hb (Array.getElem?_eq_some_iff.1 H12.out.2.2.2.2.1).1, blk_below H12.out.2.2.2.2.2.1 hb (Array.getElem?_eq_some_iff.1 H12.out.2.2.2.2.2.1).1, H12.out.2.2.2.2.2.2.1.grown hb, blk_below H12.out.2.2.2.2.2.2.2.1 hb (Array.getElem?_eq_some_iff.1 H12.out.2.2.2.2.2.2.2.1).1, H12.out.2.2.2.2.2.2.2.2.1.grown hb, blk_below H12.out.2.2.2.2.2.2.2.2.2.1 hb (Array.getElem?_eq_some_iff.1 H12.out.2.2.2.2.2.2.2.2.2.1).1, H12.out.2.2.2.2.2.2.2.2.2.2.1.grown hb, blk_below H12.out.2.2.2.2.2.2.2.2.2.2.2 hb (Array.getElem?_eq_some_iff.1 H12.out.2.2.2.2.2.2.2.2.2.2.2).1, hn5, hk5⟩)
    clear H12
    clear hb hk5 hn5 hN8 hg hgs hC
    generalize ((w'.setCell ⟨g, 0, none⟩ (.slice a5 n5 c5)).setCell ⟨g, 1, none⟩ (.slice b5 m5 d5)) = WZ at *
    have x00 := blk_cell Hq51.out.2.2.2.2.2.1 0
    have x01 := blk_cell Hq51.out.2.2.2.2.2.1 1
    simp at x00 x01
    have x10 := blk_cell Hq51.out.2.2.2.2.2.2.2.1 0
    have x11 := blk_cell Hq51.out.2.2.2.2.2.2.2.1 1
    simp at x10 x11
    go_wp2_with fail
    clear x00 x01 x10 x11
    refine (same_t ((a1, n1, c1), (b1, m1, d1)) ((a2, n2, c2), (b2, m2, d2)) (L.eraseIdx k) A WZ Hq51.out.2.2.2.1 Hq51.out.2.2.2.2.2.2.1).mono ?_
    rintro e Wq61 ⟨rfl, hb⟩
    have Hq61 := Lib.hid (show _ ∧ _ ∧ _ ∧ _ ∧ _ ∧ _ ∧ _ ∧ _ ∧ _ ∧ _ ∧ _ ∧ _ ∧ _ ∧ _ from ⟨below_after Hq51.out.1 hb Hq51.out.1.size, Hq51.out.2.1.grown hb, blk_below Hq51.out.2.2.1 hb (Array.getElem?_eq_some_iff.1 Hq51.out.2.2.1).1, Hq51.out.2.2.2.1.grown hb, blk_below Hq51.out.2.2.2.2.1 hb (Array.getElem?_eq_some_iff.1 Hq51.out.2.2.2.2.1).1, blk_below Hq51.out.2.2.2.2.2.1 hb (Array.getElem?_eq_some_iff.1 Hq51.out.2.2.2.2.2.1).1, Hq51.out.2.2.2.2.2.2.1.grown hb, blk_below Hq51.out.2.2.2.2.2.2.2.1 hb (Array.getElem?_eq_some_iff.1 Hq51.out.2.2.2.2.2.2.2.1).1, Hq51.out.2.2.2.2.2.2.2.2.1.grown hb, blk_below Hq51.out.2.2.2.2.2.2.2.2.2.1 hb (Array.getElem?_eq_some_iff.1 Hq51.out.2.2.2.2.2.2.2.2.2.1).1, Hq51.out.2.2.2.2.2.2.2.2.2.2.1.grown hb, blk_below Hq51.out.2.2.2.2.2.2.2.2.2.2.2.1 hb (Array.getElem?_eq_some_iff.1 Hq51.out.2.2.2.2.2.2.2.2.2.2.2.1).1, Hq51.out.2.2.2.2.2.2.2.2.2.2.2.2.1.grown hb, blk_below Hq51.out.2.2.2.2.2.2.2.2.2.2.2.2.2 hb (Array.getElem?_eq_some_iff.1 Hq51.out.2.2.2.2.2.2.2.2.2.2.2.2.2).1⟩)
    clear Hq51
    clear hb
    have x00 := blk_cell Hq61.out.2.2.2.2.2.2.2.2.2.2.2.1 0
    have x01 := blk_cell Hq61.out.2.2.2.2.2.2.2.2.2.2.2.1 1
    simp at x00 x01
    have x10 := blk_cell Hq61.out.2.2.2.2.2.2.2.2.2.2.2.2.2 0
    have x11 := blk_cell Hq61.out.2.2.2.2.2.2.2.2.2.2.2.2.2 1
    simp at x10 x11
    go_wp2_with fail
    clear x00 x01 x10 x11
    refine (same_t ((a4, n4, c4), (b4, m4, d4)) ((a5, n5, c5), (b5, m5, d5)) (L.eraseIdx k ++ [p]) A Wq61 Hq61.out.2.2.2.2.2.2.2.2.2.2.1 Hq61.out.2.2.2.2.2.2.2.2.2.2.2.2.1).mono ?_
    rintro e Wq62 ⟨rfl, hb⟩
    have Hq62 := Lib.hid (show _ ∧ _ ∧ _ ∧ _ ∧ _ ∧ _ ∧ _ ∧ _ ∧ _ ∧ _ ∧ _ ∧ _ ∧ _ ∧ _ from ⟨below_after Hq61.out.1 hb Hq61.out.1.size, Hq61.out.2.1.grown hb, blk_below Hq61.out.2.2.1 hb (Array.getElem?_eq_some_iff.1 Hq61.out.2.2.1).1, Hq61.out.2.2.2.1.grown hb, blk_below Hq61.out.2.2.2.2.1 hb (Array.getElem?_eq_some_iff.1 Hq61.out.2.2.2.2.1).1, blk_below Hq61.out.2.2.2.2.2.1 hb (Array.getElem?_eq_some_iff.1 Hq61.out.2.2.2.2.2.1).1, Hq61.out.2.2.2.2.2.2.1.grown hb, blk_below Hq61.out.2.2.2.2.2.2.2.1 hb (Array.getElem?_eq_some_iff.1 Hq61.out.2.2.2.2.2.2.2.1).1, Hq61.out.2.2.2.2.2.2.2.2.1.grown hb, blk_below Hq61.out.2.2.2.2.2.2.2.2.2.1 hb (Array.getElem?_eq_some_iff.1 Hq61.out.2.2.2.2.2.2.2.2.2.1).1, Hq61.out.2.2.2.2.2.2.2.2.2.2.1.grown hb, blk_below Hq61.out.2.2.2.2.2.2.2.2.2.2.2.1 hb (Array.getElem?_eq_some_iff.1 Hq61.out.2.2.2.2.2.2.2.2.2.2.2.1).1, Hq61.out.2.2.2.2.2.2.2.2.2.2.2.2.1.grown hb, blk_below Hq61.out.2.2.2.2.2.2.2.2.2.2.2.2.2 hb (Array.getElem?_eq_some_iff.1 Hq61.out.2.2.2.2.2.2.2.2.2.2.2.2.2).1⟩)
    clear Hq61
    clear hb
    have hl3 : n3 = n0 + 1 := by have := Hq62.out.2.2.2.2.2.2.2.2.1.lenQ; rw [List.length_append, ← HLN.out] at this; exact this
    subst hl3
    have y0 := blk_cell Hq62.out.2.2.2.2.2.2.2.2.2.1 0
    have y1 := blk_cell Hq62.out.2.2.2.2.2.2.2.2.2.1 1
    simp at y0 y1
    have x0 := blk_cell Hq62.out.2.2.1 0
    have x1 := blk_cell Hq62.out.2.2.1 1
    simp at x0 x1
    have hw3 : IntKind.i64.wrap ((n0 : Int) + 1) = (n0 : Int) + 1 := by rw [IntKind.wrap_i64]; omega
    have hw4 : (((n0 + 1 : Nat) : Int) == (n0 : Int) + 1) = true := by simp
    go_wp2
    exact bodyPost_ret (v := .bool true) (by simp [results, Try.results8, go_sem]) rfl ⟨rfl, Hq62.out.1⟩
end Go.Proofs.Ythgbkdaimnejeaa
