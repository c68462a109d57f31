/- The chapter's examples (layer 6). -/
import Derived.Test.YthgbkdaimnejeaaNetSem
namespace Go.Proofs.Ythgbkdaimnejeaa
open Go.ChangeShapes Go.WideShapes Go.ChangeAt Go.RowKit Go.Sort Go.Shelf

def p7 : Pk := (1, 3, strOfNums [7])
theorem ok7 : okS p7 := ⟨by unfold prt p7; decide, by unfold p7; rw [strOfNums_size]; decide⟩
theorem nok0 : NOk [] [] := ⟨by simp, fun m h => (by cases h), fun i h => by simp at h⟩
theorem nok1 : NOk [p7] [] := ⟨by simp, fun m h => by rw [List.mem_singleton.1 h]; exact ok7, fun i h => by simp at h⟩
theorem nok2 : NOk [p7, p7] [] := ⟨by simp, fun m h => by simp at h; rw [h]; exact ok7, fun i h => by simp at h⟩
theorem nok3 : NOk [p7, p7] [((1, 3) : Qt)] := ⟨by simp, fun m h => by simp at h; rw [h]; exact ok7, fun i h => by
  obtain rfl : i = 0 := by simpa using h
  exact ⟨by unfold prt nthQ; decide, by unfold nthQ; decide, fun h => by omega⟩⟩
theorem ask_s0 : askS [] [] 0 = 1 := by unfold askS; rw [if_pos nok0, if_neg (by simp)]
theorem ask_s1 : askS [p7] [] 0 = 0 := by unfold askS; rw [if_pos nok1, if_pos (by simp)]
theorem ask_s2 : askS [p7, p7] [] 0 = 0 := by unfold askS; rw [if_pos nok2, if_pos (by simp)]
theorem ask_s3 : askS [p7, p7] [((1, 3) : Qt)] 1 = 0 := by unfold askS; rw [if_pos nok3, if_pos (by simp)]
theorem send_s0 : sendS [] [] (3, 3, ByteArray.empty) = (60, [], []) := by unfold sendS; rw [if_neg (fun g => by have := g.2.1.1; exact this rfl)]
theorem send_s1 : sendS [] [] p7 = (0, [p7], []) := by unfold sendS; rw [if_pos ⟨nok0, ok7⟩, if_neg (by simp)]; rfl
theorem cut_s0 : cutS [] [] 2 2 true = (1, [], []) := by unfold cutS; rw [if_pos nok0, if_neg (fun g => g.1 rfl)]
theorem rep_s1 : repS [p7] [] 0 = (0, [p7, p7], []) := by unfold repS; rw [if_pos ask_s1, if_neg (by simp)]; rfl
theorem cut_s3 : cutS [p7, p7] [] 3 1 true = (0, [p7, p7], [((1, 3) : Qt)]) := by
  unfold cutS
  rw [if_pos nok2, if_pos (by unfold prt; decide)]
  have : cutL [] (prQ 3 1) true = [((1, 3) : Qt)] := by rw [cutL_ins]; rfl
  rw [this]
theorem lose_s2 : loseS [p7, p7] [] 0 = (0, [p7], []) := by unfold loseS; rw [if_pos ask_s2]; rfl
theorem lose_s3 : loseS [p7, p7] [((1, 3) : Qt)] 1 = (0, [p7], [((1, 3) : Qt)]) := by unfold loseS; rw [if_pos ask_s3]; rfl
theorem del_s2 : delS [] p7 = p7 := by unfold delS; rw [if_neg (by simp)]
theorem del_s3 : delS [((1, 3) : Qt)] p7 = zP := by unfold delS; rw [if_pos (by rw [show prQ p7.1 p7.2.1 = (1, 3) from rfl]; simp)]

set_option maxRecDepth 100000 in
set_option maxHeartbeats 8000000 in
theorem sane_any (w : World) : Calls Try.prog 9 #[] w fun e w' => e = .returned (.bool true) ∧ Below w.heap.size w w' := by
  go_enter Try.func9, Try.ntmps9
  have H0 := Lib.hid (Below.refl w.heap.size w)
  go_wp2_with fail
  refine (new_s w).mono ?_
  rintro e W1 ⟨rfl, hN, hb⟩
  have H1 := Lib.hid (show _ ∧ _ from ⟨below_after H0.out hb H0.out.size, hN⟩)
  clear H0
  clear hb
  go_upto_region 2 with fail
  have hb := ((Below.refl W1.heap.size W1).alloc (Nat.le_refl _) (.cells #[.slice none 0 0, .slice none 0 0] 25))
  have H2 := Lib.hid (show _ ∧ _ ∧ _ from ⟨below_after H1.out.1 hb H1.out.1.size, H1.out.2.grown hb, blk_new W1 (.cells #[.slice none 0 0, .slice none 0 0] 25)⟩)
  clear H1
  clear hb
  generalize hzW2 : W1.alloc (.cells #[.slice none 0 0, .slice none 0 0] 25) = W2 at *
  clear hzW2
  have x00 := blk_cell H2.out.2.2 0
  have x01 := blk_cell H2.out.2.2 1
  simp at x00 x01
  go_wp2_with fail
  clear x00 x01
  refine (deliver_s zN [] [] 0 W2 H2.out.2.1).mono ?_
  rintro e W3 ⟨⟨k10, k11, ka1, kn1, kc1⟩, ⟨⟨a1, n1, c1⟩, ⟨b1, m1, d1⟩⟩, rfl, hK, hN, hb⟩
  simp only [ask_s0]
  have H3 := Lib.hid (show _ ∧ _ ∧ _ from ⟨below_after H2.out.1 hb H2.out.1.size, H2.out.2.1.grown hb, blk_below H2.out.2.2 hb (Array.getElem?_eq_some_iff.1 H2.out.2.2).1⟩)
  clear H2
  clear hb
  dsimp only [vK, vN] at *
  clear hK hN
  go_upto_region 3 with fail
  have hb : Below W3.heap.size W3 ((W3.alloc (.cells #[.int .i64 k10, .int .i64 k11, .slice ka1 kn1 kc1] 28)).alloc (.cells #[.slice a1 n1 c1, .slice b1 m1 d1] 25)) := by go_grown
  have hk1 : ((W3.alloc (.cells #[.int .i64 k10, .int .i64 k11, .slice ka1 kn1 kc1] 28)).alloc (.cells #[.slice a1 n1 c1, .slice b1 m1 d1] 25)).heap[W3.heap.size]? = some (.cells #[.int .i64 k10, .int .i64 k11, .slice ka1 kn1 kc1] 28 (0, 0)) := blk_alloc (blk_new _ _) _
  have hk2 : ((W3.alloc (.cells #[.int .i64 k10, .int .i64 k11, .slice ka1 kn1 kc1] 28)).alloc (.cells #[.slice a1 n1 c1, .slice b1 m1 d1] 25)).heap[W3.heap.size + 1]? = some (.cells #[.slice a1 n1 c1, .slice b1 m1 d1] 25 (0, 0)) := by have := blk_new (W3.alloc (.cells #[.int .i64 k10, .int .i64 k11, .slice ka1 kn1 kc1] 28)) (.cells #[.slice a1 n1 c1, .slice b1 m1 d1] 25); rwa [World.size_alloc] at this
  have H4 := Lib.hid (show _ ∧ _ ∧ _ ∧ _ ∧ _ from ⟨below_after H3.out.1 hb H3.out.1.size, H3.out.2.1.grown hb, blk_below H3.out.2.2 hb (Array.getElem?_eq_some_iff.1 H3.out.2.2).1, hk1, hk2⟩)
  clear H3
  clear hb hk1 hk2
  generalize hzW4 : ((W3.alloc (.cells #[.int .i64 k10, .int .i64 k11, .slice ka1 kn1 kc1] 28)).alloc (.cells #[.slice a1 n1 c1, .slice b1 m1 d1] 25)) = W4 at *
  clear hzW4
  have x00 := blk_cell H4.out.2.2.1 0
  have x01 := blk_cell H4.out.2.2.1 1
  simp at x00 x01
  go_wp2_with fail
  clear x00 x01
  refine (send_s zN [] [] (3, 3, none, 0, 0) (3, 3, ByteArray.empty) W4 H4.out.2.1 (⟨ByteArray.empty, ⟨0, 0, [], ⟨rfl, fun h => (by cases h), fun h => (by cases h), fun i hi => (by cases hi)⟩, rfl⟩, rfl⟩)).mono ?_
  rintro e W5 ⟨⟨⟨a2, n2, c2⟩, ⟨b2, m2, d2⟩⟩, rfl, hN, hb⟩
  rw [send_s0] at hN
  simp only [send_s0]
  have H5 := Lib.hid (show _ ∧ _ ∧ _ ∧ _ ∧ _ from ⟨below_after H4.out.1 hb H4.out.1.size, H4.out.2.1.grown hb, blk_below H4.out.2.2.1 hb (Array.getElem?_eq_some_iff.1 H4.out.2.2.1).1, blk_below H4.out.2.2.2.1 hb (Array.getElem?_eq_some_iff.1 H4.out.2.2.2.1).1, blk_below H4.out.2.2.2.2 hb (Array.getElem?_eq_some_iff.1 H4.out.2.2.2.2).1⟩)
  clear H4
  clear hb
  dsimp only [vN] at *
  clear hN
  go_upto_region 4 with fail
  have hb := ((Below.refl W5.heap.size W5).alloc (Nat.le_refl _) (.cells #[.slice a2 n2 c2, .slice b2 m2 d2] 25))
  have H6 := Lib.hid (show _ ∧ _ ∧ _ ∧ _ ∧ _ ∧ _ from ⟨below_after H5.out.1 hb H5.out.1.size, H5.out.2.1.grown hb, blk_below H5.out.2.2.1 hb (Array.getElem?_eq_some_iff.1 H5.out.2.2.1).1, blk_below H5.out.2.2.2.1 hb (Array.getElem?_eq_some_iff.1 H5.out.2.2.2.1).1, blk_below H5.out.2.2.2.2 hb (Array.getElem?_eq_some_iff.1 H5.out.2.2.2.2).1, blk_new W5 (.cells #[.slice a2 n2 c2, .slice b2 m2 d2] 25)⟩)
  clear H5
  clear hb
  generalize hzW6 : W5.alloc (.cells #[.slice a2 n2 c2, .slice b2 m2 d2] 25) = W6 at *
  clear hzW6
  have x00 := blk_cell H6.out.2.2.1 0
  have x01 := blk_cell H6.out.2.2.1 1
  simp at x00 x01
  go_wp2_with fail
  clear x00 x01
  refine (cut_s zN [] [] 2 2 true W6 H6.out.2.1).mono ?_
  rintro e W7 ⟨⟨⟨a3, n3, c3⟩, ⟨b3, m3, d3⟩⟩, rfl, hN, hb⟩
  rw [cut_s0] at hN
  simp only [cut_s0]
  have H7 := Lib.hid (show _ ∧ _ ∧ _ ∧ _ ∧ _ ∧ _ from ⟨below_after H6.out.1 hb H6.out.1.size, H6.out.2.1.grown hb, blk_below H6.out.2.2.1 hb (Array.getElem?_eq_some_iff.1 H6.out.2.2.1).1, blk_below H6.out.2.2.2.1 hb (Array.getElem?_eq_some_iff.1 H6.out.2.2.2.1).1, blk_below H6.out.2.2.2.2.1 hb (Array.getElem?_eq_some_iff.1 H6.out.2.2.2.2.1).1, blk_below H6.out.2.2.2.2.2 hb (Array.getElem?_eq_some_iff.1 H6.out.2.2.2.2.2).1⟩)
  clear H6
  clear hb
  dsimp only [vN] at *
  clear hN
  go_upto_region 5 with fail
  have hb := ((Below.refl W7.heap.size W7).alloc (Nat.le_refl _) (.cells #[.slice a3 n3 c3, .slice b3 m3 d3] 25))
  have H8 := Lib.hid (show _ ∧ _ ∧ _ ∧ _ ∧ _ ∧ _ ∧ _ from ⟨below_after H7.out.1 hb H7.out.1.size, H7.out.2.1.grown hb, blk_below H7.out.2.2.1 hb (Array.getElem?_eq_some_iff.1 H7.out.2.2.1).1, blk_below H7.out.2.2.2.1 hb (Array.getElem?_eq_some_iff.1 H7.out.2.2.2.1).1, blk_below H7.out.2.2.2.2.1 hb (Array.getElem?_eq_some_iff.1 H7.out.2.2.2.2.1).1, blk_below H7.out.2.2.2.2.2 hb (Array.getElem?_eq_some_iff.1 H7.out.2.2.2.2.2).1, blk_new W7 (.cells #[.slice a3 n3 c3, .slice b3 m3 d3] 25)⟩)
  clear H7
  clear hb
  generalize hzW8 : W7.alloc (.cells #[.slice a3 n3 c3, .slice b3 m3 d3] 25) = W8 at *
  clear hzW8
  go_upto_region 6 with fail
  have hb : Below W8.heap.size W8 ((W8.alloc (.cells #[.int .u8 7] 5)).alloc (.cells #[.int .i64 1, .int .i64 3, .slice (some ⟨W8.heap.size, 0, none⟩) 1 1] 28)) := by go_grown
  have hk1 : ((W8.alloc (.cells #[.int .u8 7] 5)).alloc (.cells #[.int .i64 1, .int .i64 3, .slice (some ⟨W8.heap.size, 0, none⟩) 1 1] 28)).heap[W8.heap.size]? = some (.cells #[.int .u8 7] 5 (0, 0)) := blk_alloc (blk_new _ _) _
  have hk2 : ((W8.alloc (.cells #[.int .u8 7] 5)).alloc (.cells #[.int .i64 1, .int .i64 3, .slice (some ⟨W8.heap.size, 0, none⟩) 1 1] 28)).heap[W8.heap.size + 1]? = some (.cells #[.int .i64 1, .int .i64 3, .slice (some ⟨W8.heap.size, 0, none⟩) 1 1] 28 (0, 0)) := by have := blk_new (W8.alloc (.cells #[.int .u8 7] 5)) (.cells #[.int .i64 1, .int .i64 3, .slice (some ⟨W8.heap.size, 0, none⟩) 1 1] 28); rwa [World.size_alloc] at this
  have H9 := Lib.hid (show _ ∧ _ ∧ _ ∧ _ ∧ _ ∧ _ ∧ _ ∧ _ ∧ _ from ⟨below_after H8.out.1 hb H8.out.1.size, H8.out.2.1.grown hb, blk_below H8.out.2.2.1 hb (Array.getElem?_eq_some_iff.1 H8.out.2.2.1).1, blk_below H8.out.2.2.2.1 hb (Array.getElem?_eq_some_iff.1 H8.out.2.2.2.1).1, blk_below H8.out.2.2.2.2.1 hb (Array.getElem?_eq_some_iff.1 H8.out.2.2.2.2.1).1, blk_below H8.out.2.2.2.2.2.1 hb (Array.getElem?_eq_some_iff.1 H8.out.2.2.2.2.2.1).1, blk_below H8.out.2.2.2.2.2.2 hb (Array.getElem?_eq_some_iff.1 H8.out.2.2.2.2.2.2).1, hk1, hk2⟩)
  clear H8
  clear hb hk1 hk2
  generalize hzW9 : ((W8.alloc (.cells #[.int .u8 7] 5)).alloc (.cells #[.int .i64 1, .int .i64 3, .slice (some ⟨W8.heap.size, 0, none⟩) 1 1] 28)) = W9 at *
  clear hzW9
  have hD7 : PkV W9 (1, 3, some ⟨W8.heap.size, 0, none⟩, 1, 1) p7 := ⟨strOfNums [7], ⟨W8.heap.size, 0, [7], ⟨rfl, fun _ => rfl, fun _ => (Array.getElem?_eq_some_iff.1 H9.out.2.2.2.2.2.2.2.1).1, fun i hi => by
    obtain rfl : i = 0 := by simpa using hi
    exact blk_cell H9.out.2.2.2.2.2.2.2.1 0⟩, rfl⟩, rfl⟩
  have H10 := Lib.hid (show _ ∧ _ ∧ _ ∧ _ ∧ _ ∧ _ ∧ _ ∧ _ ∧ _ from ⟨below_after H9.out.1 (Below.refl W9.heap.size W9) H9.out.1.size, H9.out.2.1.grown (Below.refl W9.heap.size W9), blk_below H9.out.2.2.1 (Below.refl W9.heap.size W9) (Array.getElem?_eq_some_iff.1 H9.out.2.2.1).1, blk_below H9.out.2.2.2.1 (Below.refl W9.heap.size W9) (Array.getElem?_eq_some_iff.1 H9.out.2.2.2.1).1, blk_below H9.out.2.2.2.2.1 (Below.refl W9.heap.size W9) (Array.getElem?_eq_some_iff.1 H9.out.2.2.2.2.1).1, blk_below H9.out.2.2.2.2.2.1 (Below.refl W9.heap.size W9) (Array.getElem?_eq_some_iff.1 H9.out.2.2.2.2.2.1).1, blk_below H9.out.2.2.2.2.2.2.1 (Below.refl W9.heap.size W9) (Array.getElem?_eq_some_iff.1 H9.out.2.2.2.2.2.2.1).1, blk_below H9.out.2.2.2.2.2.2.2.2 (Below.refl W9.heap.size W9) (Array.getElem?_eq_some_iff.1 H9.out.2.2.2.2.2.2.2.2).1, hD7⟩)
  clear H9
  clear hD7
  generalize hg7 : W8.heap.size = g7 at *
  clear hg7
  have x00 := blk_cell H10.out.2.2.1 0
  have x01 := blk_cell H10.out.2.2.1 1
  simp at x00 x01
  have x10 := blk_cell H10.out.2.2.2.2.2.2.2.1 0
  have x11 := blk_cell H10.out.2.2.2.2.2.2.2.1 1
  have x12 := blk_cell H10.out.2.2.2.2.2.2.2.1 2
  simp at x10 x11 x12
  go_wp2_with fail
  clear x00 x01 x10 x11 x12
  refine (send_s zN [] [] (1, 3, some ⟨g7, 0, none⟩, 1, 1) p7 W9 H10.out.2.1 H10.out.2.2.2.2.2.2.2.2).mono ?_
  rintro e W11 ⟨⟨⟨a4, n4, c4⟩, ⟨b4, m4, d4⟩⟩, rfl, hN, hb⟩
  rw [send_s1] at hN
  simp only [send_s1]
  have H11 := Lib.hid (show _ ∧ _ ∧ _ ∧ _ ∧ _ ∧ _ ∧ _ ∧ _ ∧ _ ∧ _ from ⟨below_after H10.out.1 hb H10.out.1.size, H10.out.2.1.grown hb, blk_below H10.out.2.2.1 hb (Array.getElem?_eq_some_iff.1 H10.out.2.2.1).1, blk_below H10.out.2.2.2.1 hb (Array.getElem?_eq_some_iff.1 H10.out.2.2.2.1).1, blk_below H10.out.2.2.2.2.1 hb (Array.getElem?_eq_some_iff.1 H10.out.2.2.2.2.1).1, blk_below H10.out.2.2.2.2.2.1 hb (Array.getElem?_eq_some_iff.1 H10.out.2.2.2.2.2.1).1, blk_below H10.out.2.2.2.2.2.2.1 hb (Array.getElem?_eq_some_iff.1 H10.out.2.2.2.2.2.2.1).1, blk_below H10.out.2.2.2.2.2.2.2.1 hb (Array.getElem?_eq_some_iff.1 H10.out.2.2.2.2.2.2.2.1).1, H10.out.2.2.2.2.2.2.2.2.grown hb, hN⟩)
  clear H10
  clear hb
  dsimp only [vN] at *
  clear hN
  go_upto_region 7 with fail
  have hb := ((Below.refl W11.heap.size W11).alloc (Nat.le_refl _) (.cells #[.slice a4 n4 c4, .slice b4 m4 d4] 25))
  have H12 := Lib.hid (show _ ∧ _ ∧ _ ∧ _ ∧ _ ∧ _ ∧ _ ∧ _ ∧ _ ∧ _ ∧ _ from ⟨below_after H11.out.1 hb H11.out.1.size, H11.out.2.1.grown hb, blk_below H11.out.2.2.1 hb (Array.getElem?_eq_some_iff.1 H11.out.2.2.1).1, blk_below H11.out.2.2.2.1 hb (Array.getElem?_eq_some_iff.1 H11.out.2.2.2.1).1, blk_below H11.out.2.2.2.2.1 hb (Array.getElem?_eq_some_iff.1 H11.out.2.2.2.2.1).1, blk_below H11.out.2.2.2.2.2.1 hb (Array.getElem?_eq_some_iff.1 H11.out.2.2.2.2.2.1).1, blk_below H11.out.2.2.2.2.2.2.1 hb (Array.getElem?_eq_some_iff.1 H11.out.2.2.2.2.2.2.1).1, blk_below H11.out.2.2.2.2.2.2.2.1 hb (Array.getElem?_eq_some_iff.1 H11.out.2.2.2.2.2.2.2.1).1, H11.out.2.2.2.2.2.2.2.2.1.grown hb, H11.out.2.2.2.2.2.2.2.2.2.grown hb, blk_new W11 (.cells #[.slice a4 n4 c4, .slice b4 m4 d4] 25)⟩)
  clear H11
  clear hb
  generalize hzW12 : W11.alloc (.cells #[.slice a4 n4 c4, .slice b4 m4 d4] 25) = W12 at *
  clear hzW12
  have x00 := blk_cell H12.out.2.2.2.2.2.2.2.2.2.2 0
  have x01 := blk_cell H12.out.2.2.2.2.2.2.2.2.2.2 1
  simp at x00 x01
  go_wp2_with fail
  clear x00 x01
  refine (repeat_s ((a4, n4, c4), (b4, m4, d4)) [p7] [] 0 W12 H12.out.2.2.2.2.2.2.2.2.2.1).mono ?_
  rintro e W13 ⟨⟨⟨a5, n5, c5⟩, ⟨b5, m5, d5⟩⟩, rfl, hN, hb⟩
  rw [rep_s1] at hN
  simp only [rep_s1]
  have H13 := Lib.hid (show _ ∧ _ ∧ _ ∧ _ ∧ _ ∧ _ ∧ _ ∧ _ ∧ _ ∧ _ ∧ _ ∧ _ from ⟨below_after H12.out.1 hb H12.out.1.size, H12.out.2.1.grown hb, blk_below H12.out.2.2.1 hb (Array.getElem?_eq_some_iff.1 H12.out.2.2.1).1, blk_below H12.out.2.2.2.1 hb (Array.getElem?_eq_some_iff.1 H12.out.2.2.2.1).1, blk_below H12.out.2.2.2.2.1 hb (Array.getElem?_eq_some_iff.1 H12.out.2.2.2.2.1).1, blk_below H12.out.2.2.2.2.2.1 hb (Array.getElem?_eq_some_iff.1 H12.out.2.2.2.2.2.1).1, blk_below H12.out.2.2.2.2.2.2.1 hb (Array.getElem?_eq_some_iff.1 H12.out.2.2.2.2.2.2.1).1, blk_below H12.out.2.2.2.2.2.2.2.1 hb (Array.getElem?_eq_some_iff.1 H12.out.2.2.2.2.2.2.2.1).1, H12.out.2.2.2.2.2.2.2.2.1.grown hb, H12.out.2.2.2.2.2.2.2.2.2.1.grown hb, blk_below H12.out.2.2.2.2.2.2.2.2.2.2 hb (Array.getElem?_eq_some_iff.1 H12.out.2.2.2.2.2.2.2.2.2.2).1, hN⟩)
  clear H12
  clear hb
  dsimp only [vN] at *
  clear hN
  go_upto_region 8 with fail
  have hb := ((Below.refl W13.heap.size W13).alloc (Nat.le_refl _) (.cells #[.slice a5 n5 c5, .slice b5 m5 d5] 25))
  have H14 := Lib.hid (show _ ∧ _ ∧ _ ∧ _ ∧ _ ∧ _ ∧ _ ∧ _ ∧ _ ∧ _ ∧ _ ∧ _ ∧ _ from ⟨below_after H13.out.1 hb H13.out.1.size, H13.out.2.1.grown hb, blk_below H13.out.2.2.1 hb (Array.getElem?_eq_some_iff.1 H13.out.2.2.1).1, blk_below H13.out.2.2.2.1 hb (Array.getElem?_eq_some_iff.1 H13.out.2.2.2.1).1, blk_below H13.out.2.2.2.2.1 hb (Array.getElem?_eq_some_iff.1 H13.out.2.2.2.2.1).1, blk_below H13.out.2.2.2.2.2.1 hb (Array.getElem?_eq_some_iff.1 H13.out.2.2.2.2.2.1).1, blk_below H13.out.2.2.2.2.2.2.1 hb (Array.getElem?_eq_some_iff.1 H13.out.2.2.2.2.2.2.1).1, blk_below H13.out.2.2.2.2.2.2.2.1 hb (Array.getElem?_eq_some_iff.1 H13.out.2.2.2.2.2.2.2.1).1, H13.out.2.2.2.2.2.2.2.2.1.grown hb, H13.out.2.2.2.2.2.2.2.2.2.1.grown hb, blk_below H13.out.2.2.2.2.2.2.2.2.2.2.1 hb (Array.getElem?_eq_some_iff.1 H13.out.2.2.2.2.2.2.2.2.2.2.1).1, H13.out.2.2.2.2.2.2.2.2.2.2.2.grown hb, blk_new W13 (.cells #[.slice a5 n5 c5, .slice b5 m5 d5] 25)⟩)
  clear H13
  clear hb
  generalize hzW14 : W13.alloc (.cells #[.slice a5 n5 c5, .slice b5 m5 d5] 25) = W14 at *
  clear hzW14
  have x00 := blk_cell H14.out.2.2.2.2.2.2.2.2.2.2.2.2 0
  have x01 := blk_cell H14.out.2.2.2.2.2.2.2.2.2.2.2.2 1
  simp at x00 x01
  go_wp2_with fail
  clear x00 x01
  refine (cut_s ((a5, n5, c5), (b5, m5, d5)) [p7, p7] [] 3 1 true W14 H14.out.2.2.2.2.2.2.2.2.2.2.2.1).mono ?_
  rintro e W15 ⟨⟨⟨a6, n6, c6⟩, ⟨b6, m6, d6⟩⟩, rfl, hN, hb⟩
  rw [cut_s3] at hN
  simp only [cut_s3]
  have H15 := Lib.hid (show _ ∧ _ ∧ _ ∧ _ ∧ _ ∧ _ ∧ _ ∧ _ ∧ _ ∧ _ ∧ _ ∧ _ ∧ _ ∧ _ from ⟨below_after H14.out.1 hb H14.out.1.size, H14.out.2.1.grown hb, blk_below H14.out.2.2.1 hb (Array.getElem?_eq_some_iff.1 H14.out.2.2.1).1, blk_below H14.out.2.2.2.1 hb (Array.getElem?_eq_some_iff.1 H14.out.2.2.2.1).1, blk_below H14.out.2.2.2.2.1 hb (Array.getElem?_eq_some_iff.1 H14.out.2.2.2.2.1).1, blk_below H14.out.2.2.2.2.2.1 hb (Array.getElem?_eq_some_iff.1 H14.out.2.2.2.2.2.1).1, blk_below H14.out.2.2.2.2.2.2.1 hb (Array.getElem?_eq_some_iff.1 H14.out.2.2.2.2.2.2.1).1, blk_below H14.out.2.2.2.2.2.2.2.1 hb (Array.getElem?_eq_some_iff.1 H14.out.2.2.2.2.2.2.2.1).1, H14.out.2.2.2.2.2.2.2.2.1.grown hb, H14.out.2.2.2.2.2.2.2.2.2.1.grown hb, blk_below H14.out.2.2.2.2.2.2.2.2.2.2.1 hb (Array.getElem?_eq_some_iff.1 H14.out.2.2.2.2.2.2.2.2.2.2.1).1, H14.out.2.2.2.2.2.2.2.2.2.2.2.1.grown hb, blk_below H14.out.2.2.2.2.2.2.2.2.2.2.2.2 hb (Array.getElem?_eq_some_iff.1 H14.out.2.2.2.2.2.2.2.2.2.2.2.2).1, hN⟩)
  clear H14
  clear hb
  dsimp only [vN] at *
  clear hN
  go_upto_region 9 with fail
  have hb := ((Below.refl W15.heap.size W15).alloc (Nat.le_refl _) (.cells #[.slice a6 n6 c6, .slice b6 m6 d6] 25))
  have H16 := Lib.hid (show _ ∧ _ ∧ _ ∧ _ ∧ _ ∧ _ ∧ _ ∧ _ ∧ _ ∧ _ ∧ _ ∧ _ ∧ _ ∧ _ ∧ _ from ⟨below_after H15.out.1 hb H15.out.1.size, H15.out.2.1.grown hb, blk_below H15.out.2.2.1 hb (Array.getElem?_eq_some_iff.1 H15.out.2.2.1).1, blk_below H15.out.2.2.2.1 hb (Array.getElem?_eq_some_iff.1 H15.out.2.2.2.1).1, blk_below H15.out.2.2.2.2.1 hb (Array.getElem?_eq_some_iff.1 H15.out.2.2.2.2.1).1, blk_below H15.out.2.2.2.2.2.1 hb (Array.getElem?_eq_some_iff.1 H15.out.2.2.2.2.2.1).1, blk_below H15.out.2.2.2.2.2.2.1 hb (Array.getElem?_eq_some_iff.1 H15.out.2.2.2.2.2.2.1).1, blk_below H15.out.2.2.2.2.2.2.2.1 hb (Array.getElem?_eq_some_iff.1 H15.out.2.2.2.2.2.2.2.1).1, H15.out.2.2.2.2.2.2.2.2.1.grown hb, H15.out.2.2.2.2.2.2.2.2.2.1.grown hb, blk_below H15.out.2.2.2.2.2.2.2.2.2.2.1 hb (Array.getElem?_eq_some_iff.1 H15.out.2.2.2.2.2.2.2.2.2.2.1).1, H15.out.2.2.2.2.2.2.2.2.2.2.2.1.grown hb, blk_below H15.out.2.2.2.2.2.2.2.2.2.2.2.2.1 hb (Array.getElem?_eq_some_iff.1 H15.out.2.2.2.2.2.2.2.2.2.2.2.2.1).1, H15.out.2.2.2.2.2.2.2.2.2.2.2.2.2.grown hb, blk_new W15 (.cells #[.slice a6 n6 c6, .slice b6 m6 d6] 25)⟩)
  clear H15
  clear hb
  generalize hzW16 : W15.alloc (.cells #[.slice a6 n6 c6, .slice b6 m6 d6] 25) = W16 at *
  clear hzW16
  have x00 := blk_cell H16.out.2.2.2.2.2.2.2.2.2.2.2.2.1 0
  have x01 := blk_cell H16.out.2.2.2.2.2.2.2.2.2.2.2.2.1 1
  simp at x00 x01
  go_wp2_with fail
  clear x00 x01
  refine (deliver_s ((a5, n5, c5), (b5, m5, d5)) [p7, p7] [] 0 W16 H16.out.2.2.2.2.2.2.2.2.2.2.2.1).mono ?_
  rintro e W17 ⟨⟨k70, k71, ka7, kn7, kc7⟩, ⟨⟨a7, n7, c7⟩, ⟨b7, m7, d7⟩⟩, rfl, hK, hN, hb⟩
  simp only [ask_s2]
  rw [lose_s2] at hN
  have hK' := hK
  rw [ask_s2, if_pos rfl] at hK'
  replace hK' : PkV _ _ (delS _ p7) := hK'
  rw [del_s2] at hK'
  clear hK
  have hK := hK'
  clear hK'
  have H17 := Lib.hid (show _ ∧ _ ∧ _ ∧ _ ∧ _ ∧ _ ∧ _ ∧ _ ∧ _ ∧ _ ∧ _ ∧ _ ∧ _ ∧ _ ∧ _ ∧ _ ∧ _ from ⟨below_after H16.out.1 hb H16.out.1.size, H16.out.2.1.grown hb, blk_below H16.out.2.2.1 hb (Array.getElem?_eq_some_iff.1 H16.out.2.2.1).1, blk_below H16.out.2.2.2.1 hb (Array.getElem?_eq_some_iff.1 H16.out.2.2.2.1).1, blk_below H16.out.2.2.2.2.1 hb (Array.getElem?_eq_some_iff.1 H16.out.2.2.2.2.1).1, blk_below H16.out.2.2.2.2.2.1 hb (Array.getElem?_eq_some_iff.1 H16.out.2.2.2.2.2.1).1, blk_below H16.out.2.2.2.2.2.2.1 hb (Array.getElem?_eq_some_iff.1 H16.out.2.2.2.2.2.2.1).1, blk_below H16.out.2.2.2.2.2.2.2.1 hb (Array.getElem?_eq_some_iff.1 H16.out.2.2.2.2.2.2.2.1).1, H16.out.2.2.2.2.2.2.2.2.1.grown hb, H16.out.2.2.2.2.2.2.2.2.2.1.grown hb, blk_below H16.out.2.2.2.2.2.2.2.2.2.2.1 hb (Array.getElem?_eq_some_iff.1 H16.out.2.2.2.2.2.2.2.2.2.2.1).1, H16.out.2.2.2.2.2.2.2.2.2.2.2.1.grown hb, blk_below H16.out.2.2.2.2.2.2.2.2.2.2.2.2.1 hb (Array.getElem?_eq_some_iff.1 H16.out.2.2.2.2.2.2.2.2.2.2.2.2.1).1, H16.out.2.2.2.2.2.2.2.2.2.2.2.2.2.1.grown hb, blk_below H16.out.2.2.2.2.2.2.2.2.2.2.2.2.2.2 hb (Array.getElem?_eq_some_iff.1 H16.out.2.2.2.2.2.2.2.2.2.2.2.2.2.2).1, hK, hN⟩)
  clear H16
  clear hb
  dsimp only [vK, vN] at *
  clear hK hN
  go_upto_region 10 with fail
  have hb : Below W17.heap.size W17 ((W17.alloc (.cells #[.int .i64 k70, .int .i64 k71, .slice ka7 kn7 kc7] 28)).alloc (.cells #[.slice a7 n7 c7, .slice b7 m7 d7] 25)) := by go_grown
  have hk1 : ((W17.alloc (.cells #[.int .i64 k70, .int .i64 k71, .slice ka7 kn7 kc7] 28)).alloc (.cells #[.slice a7 n7 c7, .slice b7 m7 d7] 25)).heap[W17.heap.size]? = some (.cells #[.int .i64 k70, .int .i64 k71, .slice ka7 kn7 kc7] 28 (0, 0)) := blk_alloc (blk_new _ _) _
  have hk2 : ((W17.alloc (.cells #[.int .i64 k70, .int .i64 k71, .slice ka7 kn7 kc7] 28)).alloc (.cells #[.slice a7 n7 c7, .slice b7 m7 d7] 25)).heap[W17.heap.size + 1]? = some (.cells #[.slice a7 n7 c7, .slice b7 m7 d7] 25 (0, 0)) := by have := blk_new (W17.alloc (.cells #[.int .i64 k70, .int .i64 k71, .slice ka7 kn7 kc7] 28)) (.cells #[.slice a7 n7 c7, .slice b7 m7 d7] 25); rwa [World.size_alloc] at this
  have H18 := Lib.hid (show _ ∧ _ ∧ _ ∧ _ ∧ _ ∧ _ ∧ _ ∧ _ ∧ _ ∧ _ ∧ _ ∧ _ ∧ _ ∧ _ ∧ _ ∧ _ ∧ _ ∧ _ ∧ _ from ⟨below_after H17.out.1 hb H17.out.1.size, H17.out.2.1.grown hb, blk_below H17.out.2.2.1 hb (Array.getElem?_eq_some_iff.1 H17.out.2.2.1).1, blk_below H17.out.2.2.2.1 hb (Array.getElem?_eq_some_iff.1 H17.out.2.2.2.1).1, blk_below H17.out.2.2.2.2.1 hb (Array.getElem?_eq_some_iff.1 H17.out.2.2.2.2.1).1, blk_below H17.out.2.2.2.2.2.1 hb (Array.getElem?_eq_some_iff.1 H17.out.2.2.2.2.2.1).1, blk_below H17.out.2.2.2.2.2.2.1 hb (Array.getElem?_eq_some_iff.1 H17.out.2.2.2.2.2.2.1).1, blk_below H17.out.2.2.2.2.2.2.2.1 hb (Array.getElem?_eq_some_iff.1 H17.out.2.2.2.2.2.2.2.1).1, H17.out.2.2.2.2.2.2.2.2.1.grown hb, H17.out.2.2.2.2.2.2.2.2.2.1.grown hb, blk_below H17.out.2.2.2.2.2.2.2.2.2.2.1 hb (Array.getElem?_eq_some_iff.1 H17.out.2.2.2.2.2.2.2.2.2.2.1).1, H17.out.2.2.2.2.2.2.2.2.2.2.2.1.grown hb, blk_below H17.out.2.2.2.2.2.2.2.2.2.2.2.2.1 hb (Array.getElem?_eq_some_iff.1 H17.out.2.2.2.2.2.2.2.2.2.2.2.2.1).1, H17.out.2.2.2.2.2.2.2.2.2.2.2.2.2.1.grown hb, blk_below H17.out.2.2.2.2.2.2.2.2.2.2.2.2.2.2.1 hb (Array.getElem?_eq_some_iff.1 H17.out.2.2.2.2.2.2.2.2.2.2.2.2.2.2.1).1, H17.out.2.2.2.2.2.2.2.2.2.2.2.2.2.2.2.1.grown hb, H17.out.2.2.2.2.2.2.2.2.2.2.2.2.2.2.2.2.grown hb, hk1, hk2⟩)
  clear H17
  clear hb hk1 hk2
  generalize hzW18 : ((W17.alloc (.cells #[.int .i64 k70, .int .i64 k71, .slice ka7 kn7 kc7] 28)).alloc (.cells #[.slice a7 n7 c7, .slice b7 m7 d7] 25)) = W18 at *
  clear hzW18
  have x00 := blk_cell H18.out.2.2.2.2.2.2.2.2.2.2.2.2.2.2.1 0
  have x01 := blk_cell H18.out.2.2.2.2.2.2.2.2.2.2.2.2.2.2.1 1
  simp at x00 x01
  go_wp2_with fail
  clear x00 x01
  refine (deliver_s ((a6, n6, c6), (b6, m6, d6)) [p7, p7] [((1, 3) : Qt)] 1 W18 H18.out.2.2.2.2.2.2.2.2.2.2.2.2.2.1).mono ?_
  rintro e W19 ⟨⟨k80, k81, ka8, kn8, kc8⟩, ⟨⟨a8, n8, c8⟩, ⟨b8, m8, d8⟩⟩, rfl, hK, hN, hb⟩
  simp only [ask_s3]
  rw [lose_s3] at hN
  have hK' := hK
  rw [ask_s3, if_pos rfl] at hK'
  replace hK' : PkV _ _ (delS _ p7) := hK'
  rw [del_s3] at hK'
  clear hK
  have hK := hK'
  clear hK'
  have H19 := Lib.hid (show _ ∧ _ ∧ _ ∧ _ ∧ _ ∧ _ ∧ _ ∧ _ ∧ _ ∧ _ ∧ _ ∧ _ ∧ _ ∧ _ ∧ _ ∧ _ ∧ _ ∧ _ ∧ _ ∧ _ ∧ _ from ⟨below_after H18.out.1 hb H18.out.1.size, H18.out.2.1.grown hb, blk_below H18.out.2.2.1 hb (Array.getElem?_eq_some_iff.1 H18.out.2.2.1).1, blk_below H18.out.2.2.2.1 hb (Array.getElem?_eq_some_iff.1 H18.out.2.2.2.1).1, blk_below H18.out.2.2.2.2.1 hb (Array.getElem?_eq_some_iff.1 H18.out.2.2.2.2.1).1, blk_below H18.out.2.2.2.2.2.1 hb (Array.getElem?_eq_some_iff.1 H18.out.2.2.2.2.2.1).1, blk_below H18.out.2.2.2.2.2.2.1 hb (Array.getElem?_eq_some_iff.1 H18.out.2.2.2.2.2.2.1).1, blk_below H18.out.2.2.2.2.2.2.2.1 hb (Array.getElem?_eq_some_iff.1 H18.out.2.2.2.2.2.2.2.1).1, H18.out.2.2.2.2.2.2.2.2.1.grown hb, H18.out.2.2.2.2.2.2.2.2.2.1.grown hb, blk_below H18.out.2.2.2.2.2.2.2.2.2.2.1 hb (Array.getElem?_eq_some_iff.1 H18.out.2.2.2.2.2.2.2.2.2.2.1).1, H18.out.2.2.2.2.2.2.2.2.2.2.2.1.grown hb, blk_below H18.out.2.2.2.2.2.2.2.2.2.2.2.2.1 hb (Array.getElem?_eq_some_iff.1 H18.out.2.2.2.2.2.2.2.2.2.2.2.2.1).1, H18.out.2.2.2.2.2.2.2.2.2.2.2.2.2.1.grown hb, blk_below H18.out.2.2.2.2.2.2.2.2.2.2.2.2.2.2.1 hb (Array.getElem?_eq_some_iff.1 H18.out.2.2.2.2.2.2.2.2.2.2.2.2.2.2.1).1, H18.out.2.2.2.2.2.2.2.2.2.2.2.2.2.2.2.1.grown hb, H18.out.2.2.2.2.2.2.2.2.2.2.2.2.2.2.2.2.1.grown hb, blk_below H18.out.2.2.2.2.2.2.2.2.2.2.2.2.2.2.2.2.2.1 hb (Array.getElem?_eq_some_iff.1 H18.out.2.2.2.2.2.2.2.2.2.2.2.2.2.2.2.2.2.1).1, blk_below H18.out.2.2.2.2.2.2.2.2.2.2.2.2.2.2.2.2.2.2 hb (Array.getElem?_eq_some_iff.1 H18.out.2.2.2.2.2.2.2.2.2.2.2.2.2.2.2.2.2.2).1, hK, hN⟩)
  clear H18
  clear hb
  dsimp only [vK, vN] at *
  clear hK hN
  go_upto_region 11 with fail
  have hb : Below W19.heap.size W19 ((W19.alloc (.cells #[.int .i64 k80, .int .i64 k81, .slice ka8 kn8 kc8] 28)).alloc (.cells #[.slice a8 n8 c8, .slice b8 m8 d8] 25)) := by go_grown
  have hk1 : ((W19.alloc (.cells #[.int .i64 k80, .int .i64 k81, .slice ka8 kn8 kc8] 28)).alloc (.cells #[.slice a8 n8 c8, .slice b8 m8 d8] 25)).heap[W19.heap.size]? = some (.cells #[.int .i64 k80, .int .i64 k81, .slice ka8 kn8 kc8] 28 (0, 0)) := blk_alloc (blk_new _ _) _
  have hk2 : ((W19.alloc (.cells #[.int .i64 k80, .int .i64 k81, .slice ka8 kn8 kc8] 28)).alloc (.cells #[.slice a8 n8 c8, .slice b8 m8 d8] 25)).heap[W19.heap.size + 1]? = some (.cells #[.slice a8 n8 c8, .slice b8 m8 d8] 25 (0, 0)) := by have := blk_new (W19.alloc (.cells #[.int .i64 k80, .int .i64 k81, .slice ka8 kn8 kc8] 28)) (.cells #[.slice a8 n8 c8, .slice b8 m8 d8] 25); rwa [World.size_alloc] at this
  have H20 := Lib.hid (show _ ∧ _ ∧ _ ∧ _ ∧ _ ∧ _ ∧ _ ∧ _ ∧ _ ∧ _ ∧ _ ∧ _ ∧ _ ∧ _ ∧ _ ∧ _ ∧ _ ∧ _ ∧ _ ∧ _ ∧ _ ∧ _ ∧ _ from ⟨below_after H19.out.1 hb H19.out.1.size, H19.out.2.1.grown hb, blk_below H19.out.2.2.1 hb (Array.getElem?_eq_some_iff.1 H19.out.2.2.1).1, blk_below H19.out.2.2.2.1 hb (Array.getElem?_eq_some_iff.1 H19.out.2.2.2.1).1, blk_below H19.out.2.2.2.2.1 hb (Array.getElem?_eq_some_iff.1 H19.out.2.2.2.2.1).1, blk_below H19.out.2.2.2.2.2.1 hb (Array.getElem?_eq_some_iff.1 H19.out.2.2.2.2.2.1).1, blk_below H19.out.2.2.2.2.2.2.1 hb (Array.getElem?_eq_some_iff.1 H19.out.2.2.2.2.2.2.1).1, blk_below H19.out.2.2.2.2.2.2.2.1 hb (Array.getElem?_eq_some_iff.1 H19.out.2.2.2.2.2.2.2.1).1, H19.out.2.2.2.2.2.2.2.2.1.grown hb, H19.out.2.2.2.2.2.2.2.2.2.1.grown hb, blk_below H19.out.2.2.2.2.2.2.2.2.2.2.1 hb (Array.getElem?_eq_some_iff.1 H19.out.2.2.2.2.2.2.2.2.2.2.1).1, H19.out.2.2.2.2.2.2.2.2.2.2.2.1.grown hb, blk_below H19.out.2.2.2.2.2.2.2.2.2.2.2.2.1 hb (Array.getElem?_eq_some_iff.1 H19.out.2.2.2.2.2.2.2.2.2.2.2.2.1).1, H19.out.2.2.2.2.2.2.2.2.2.2.2.2.2.1.grown hb, blk_below H19.out.2.2.2.2.2.2.2.2.2.2.2.2.2.2.1 hb (Array.getElem?_eq_some_iff.1 H19.out.2.2.2.2.2.2.2.2.2.2.2.2.2.2.1).1, H19.out.2.2.2.2.2.2.2.2.2.2.2.2.2.2.2.1.grown hb, H19.out.2.2.2.2.2.2.2.2.2.2.2.2.2.2.2.2.1.grown hb, blk_below H19.out.2.2.2.2.2.2.2.2.2.2.2.2.2.2.2.2.2.1 hb (Array.getElem?_eq_some_iff.1 H19.out.2.2.2.2.2.2.2.2.2.2.2.2.2.2.2.2.2.1).1, blk_below H19.out.2.2.2.2.2.2.2.2.2.2.2.2.2.2.2.2.2.2.1 hb (Array.getElem?_eq_some_iff.1 H19.out.2.2.2.2.2.2.2.2.2.2.2.2.2.2.2.2.2.2.1).1, H19.out.2.2.2.2.2.2.2.2.2.2.2.2.2.2.2.2.2.2.2.1.grown hb, H19.out.2.2.2.2.2.2.2.2.2.2.2.2.2.2.2.2.2.2.2.2.grown hb, hk1, hk2⟩)
  clear H19
  clear hb hk1 hk2
  generalize hzW20 : ((W19.alloc (.cells #[.int .i64 k80, .int .i64 k81, .slice ka8 kn8 kc8] 28)).alloc (.cells #[.slice a8 n8 c8, .slice b8 m8 d8] 25)) = W20 at *
  clear hzW20
  clear hN
  have x00 := blk_cell H20.out.2.2.1 0
  have x01 := blk_cell H20.out.2.2.1 1
  simp at x00 x01
  go_wp2_with fail
  clear x00 x01
  refine (check_s zN [] [] W20 H20.out.2.1).mono ?_
  rintro e W21 ⟨rfl, hb⟩
  rw [chkS_yes nok0]
  have H21 := Lib.hid (show _ ∧ _ ∧ _ ∧ _ ∧ _ ∧ _ ∧ _ ∧ _ ∧ _ ∧ _ ∧ _ ∧ _ ∧ _ ∧ _ ∧ _ ∧ _ ∧ _ ∧ _ ∧ _ ∧ _ ∧ _ ∧ _ ∧ _ from ⟨below_after H20.out.1 hb H20.out.1.size, H20.out.2.1.grown hb, blk_below H20.out.2.2.1 hb (Array.getElem?_eq_some_iff.1 H20.out.2.2.1).1, blk_below H20.out.2.2.2.1 hb (Array.getElem?_eq_some_iff.1 H20.out.2.2.2.1).1, blk_below H20.out.2.2.2.2.1 hb (Array.getElem?_eq_some_iff.1 H20.out.2.2.2.2.1).1, blk_below H20.out.2.2.2.2.2.1 hb (Array.getElem?_eq_some_iff.1 H20.out.2.2.2.2.2.1).1, blk_below H20.out.2.2.2.2.2.2.1 hb (Array.getElem?_eq_some_iff.1 H20.out.2.2.2.2.2.2.1).1, blk_below H20.out.2.2.2.2.2.2.2.1 hb (Array.getElem?_eq_some_iff.1 H20.out.2.2.2.2.2.2.2.1).1, H20.out.2.2.2.2.2.2.2.2.1.grown hb, H20.out.2.2.2.2.2.2.2.2.2.1.grown hb, blk_below H20.out.2.2.2.2.2.2.2.2.2.2.1 hb (Array.getElem?_eq_some_iff.1 H20.out.2.2.2.2.2.2.2.2.2.2.1).1, H20.out.2.2.2.2.2.2.2.2.2.2.2.1.grown hb, blk_below H20.out.2.2.2.2.2.2.2.2.2.2.2.2.1 hb (Array.getElem?_eq_some_iff.1 H20.out.2.2.2.2.2.2.2.2.2.2.2.2.1).1, H20.out.2.2.2.2.2.2.2.2.2.2.2.2.2.1.grown hb, blk_below H20.out.2.2.2.2.2.2.2.2.2.2.2.2.2.2.1 hb (Array.getElem?_eq_some_iff.1 H20.out.2.2.2.2.2.2.2.2.2.2.2.2.2.2.1).1, H20.out.2.2.2.2.2.2.2.2.2.2.2.2.2.2.2.1.grown hb, H20.out.2.2.2.2.2.2.2.2.2.2.2.2.2.2.2.2.1.grown hb, blk_below H20.out.2.2.2.2.2.2.2.2.2.2.2.2.2.2.2.2.2.1 hb (Array.getElem?_eq_some_iff.1 H20.out.2.2.2.2.2.2.2.2.2.2.2.2.2.2.2.2.2.1).1, blk_below H20.out.2.2.2.2.2.2.2.2.2.2.2.2.2.2.2.2.2.2.1 hb (Array.getElem?_eq_some_iff.1 H20.out.2.2.2.2.2.2.2.2.2.2.2.2.2.2.2.2.2.2.1).1, H20.out.2.2.2.2.2.2.2.2.2.2.2.2.2.2.2.2.2.2.2.1.grown hb, H20.out.2.2.2.2.2.2.2.2.2.2.2.2.2.2.2.2.2.2.2.2.1.grown hb, blk_below H20.out.2.2.2.2.2.2.2.2.2.2.2.2.2.2.2.2.2.2.2.2.2.1 hb (Array.getElem?_eq_some_iff.1 H20.out.2.2.2.2.2.2.2.2.2.2.2.2.2.2.2.2.2.2.2.2.2.1).1, blk_below H20.out.2.2.2.2.2.2.2.2.2.2.2.2.2.2.2.2.2.2.2.2.2.2 hb (Array.getElem?_eq_some_iff.1 H20.out.2.2.2.2.2.2.2.2.2.2.2.2.2.2.2.2.2.2.2.2.2.2).1⟩)
  clear H20
  clear hb
  have x00 := blk_cell H21.out.2.2.2.2.2.2.2.1 0
  have x01 := blk_cell H21.out.2.2.2.2.2.2.2.1 1
  have x02 := blk_cell H21.out.2.2.2.2.2.2.2.1 2
  simp at x00 x01 x02
  have x10 := blk_cell H21.out.2.2.2.2.2.2.2.2.2.2.2.2.2.2.2.2.2.1 0
  have x11 := blk_cell H21.out.2.2.2.2.2.2.2.2.2.2.2.2.2.2.2.2.2.1 1
  have x12 := blk_cell H21.out.2.2.2.2.2.2.2.2.2.2.2.2.2.2.2.2.2.1 2
  simp at x10 x11 x12
  go_wp2_with fail
  clear x00 x01 x02 x10 x11 x12
  refine (samePk_s (1, 3, some ⟨g7, 0, none⟩, 1, 1) (k70, k71, ka7, kn7, kc7) p7 p7 W21 H21.out.2.2.2.2.2.2.2.2.1 H21.out.2.2.2.2.2.2.2.2.2.2.2.2.2.2.2.1).mono ?_
  rintro e W22 ⟨rfl, hb⟩
  rw [decide_eq_true rfl]
  have H22 := Lib.hid (show _ ∧ _ ∧ _ ∧ _ ∧ _ ∧ _ ∧ _ ∧ _ ∧ _ ∧ _ ∧ _ ∧ _ ∧ _ ∧ _ ∧ _ ∧ _ ∧ _ ∧ _ ∧ _ ∧ _ ∧ _ ∧ _ ∧ _ from ⟨below_after H21.out.1 hb H21.out.1.size, H21.out.2.1.grown hb, blk_below H21.out.2.2.1 hb (Array.getElem?_eq_some_iff.1 H21.out.2.2.1).1, blk_below H21.out.2.2.2.1 hb (Array.getElem?_eq_some_iff.1 H21.out.2.2.2.1).1, blk_below H21.out.2.2.2.2.1 hb (Array.getElem?_eq_some_iff.1 H21.out.2.2.2.2.1).1, blk_below H21.out.2.2.2.2.2.1 hb (Array.getElem?_eq_some_iff.1 H21.out.2.2.2.2.2.1).1, blk_below H21.out.2.2.2.2.2.2.1 hb (Array.getElem?_eq_some_iff.1 H21.out.2.2.2.2.2.2.1).1, blk_below H21.out.2.2.2.2.2.2.2.1 hb (Array.getElem?_eq_some_iff.1 H21.out.2.2.2.2.2.2.2.1).1, H21.out.2.2.2.2.2.2.2.2.1.grown hb, H21.out.2.2.2.2.2.2.2.2.2.1.grown hb, blk_below H21.out.2.2.2.2.2.2.2.2.2.2.1 hb (Array.getElem?_eq_some_iff.1 H21.out.2.2.2.2.2.2.2.2.2.2.1).1, H21.out.2.2.2.2.2.2.2.2.2.2.2.1.grown hb, blk_below H21.out.2.2.2.2.2.2.2.2.2.2.2.2.1 hb (Array.getElem?_eq_some_iff.1 H21.out.2.2.2.2.2.2.2.2.2.2.2.2.1).1, H21.out.2.2.2.2.2.2.2.2.2.2.2.2.2.1.grown hb, blk_below H21.out.2.2.2.2.2.2.2.2.2.2.2.2.2.2.1 hb (Array.getElem?_eq_some_iff.1 H21.out.2.2.2.2.2.2.2.2.2.2.2.2.2.2.1).1, H21.out.2.2.2.2.2.2.2.2.2.2.2.2.2.2.2.1.grown hb, H21.out.2.2.2.2.2.2.2.2.2.2.2.2.2.2.2.2.1.grown hb, blk_below H21.out.2.2.2.2.2.2.2.2.2.2.2.2.2.2.2.2.2.1 hb (Array.getElem?_eq_some_iff.1 H21.out.2.2.2.2.2.2.2.2.2.2.2.2.2.2.2.2.2.1).1, blk_below H21.out.2.2.2.2.2.2.2.2.2.2.2.2.2.2.2.2.2.2.1 hb (Array.getElem?_eq_some_iff.1 H21.out.2.2.2.2.2.2.2.2.2.2.2.2.2.2.2.2.2.2.1).1, H21.out.2.2.2.2.2.2.2.2.2.2.2.2.2.2.2.2.2.2.2.1.grown hb, H21.out.2.2.2.2.2.2.2.2.2.2.2.2.2.2.2.2.2.2.2.2.1.grown hb, blk_below H21.out.2.2.2.2.2.2.2.2.2.2.2.2.2.2.2.2.2.2.2.2.2.1 hb (Array.getElem?_eq_some_iff.1 H21.out.2.2.2.2.2.2.2.2.2.2.2.2.2.2.2.2.2.2.2.2.2.1).1, blk_below H21.out.2.2.2.2.2.2.2.2.2.2.2.2.2.2.2.2.2.2.2.2.2.2 hb (Array.getElem?_eq_some_iff.1 H21.out.2.2.2.2.2.2.2.2.2.2.2.2.2.2.2.2.2.2.2.2.2.2).1⟩)
  clear H21
  clear hb
  have x00 := blk_cell H22.out.2.2.2.2.2.2.2.2.2.2.2.2.2.2.2.2.2.2.2.2.2.1 0
  have x01 := blk_cell H22.out.2.2.2.2.2.2.2.2.2.2.2.2.2.2.2.2.2.2.2.2.2.1 1
  have x02 := blk_cell H22.out.2.2.2.2.2.2.2.2.2.2.2.2.2.2.2.2.2.2.2.2.2.1 2
  simp at x00 x01 x02
  go_wp2_with fail
  clear x00 x01 x02
  refine (samePk_s (k80, k81, ka8, kn8, kc8) zK zP zP W22 H22.out.2.2.2.2.2.2.2.2.2.2.2.2.2.2.2.2.2.2.2.1 (PkV.zero _)).mono ?_
  rintro e W23 ⟨rfl, hb⟩
  rw [decide_eq_true rfl]
  have H23 := Lib.hid (show _ ∧ _ ∧ _ ∧ _ ∧ _ ∧ _ ∧ _ ∧ _ ∧ _ ∧ _ ∧ _ ∧ _ ∧ _ ∧ _ ∧ _ ∧ _ ∧ _ ∧ _ ∧ _ ∧ _ ∧ _ ∧ _ ∧ _ from ⟨below_after H22.out.1 hb H22.out.1.size, H22.out.2.1.grown hb, blk_below H22.out.2.2.1 hb (Array.getElem?_eq_some_iff.1 H22.out.2.2.1).1, blk_below H22.out.2.2.2.1 hb (Array.getElem?_eq_some_iff.1 H22.out.2.2.2.1).1, blk_below H22.out.2.2.2.2.1 hb (Array.getElem?_eq_some_iff.1 H22.out.2.2.2.2.1).1, blk_below H22.out.2.2.2.2.2.1 hb (Array.getElem?_eq_some_iff.1 H22.out.2.2.2.2.2.1).1, blk_below H22.out.2.2.2.2.2.2.1 hb (Array.getElem?_eq_some_iff.1 H22.out.2.2.2.2.2.2.1).1, blk_below H22.out.2.2.2.2.2.2.2.1 hb (Array.getElem?_eq_some_iff.1 H22.out.2.2.2.2.2.2.2.1).1, H22.out.2.2.2.2.2.2.2.2.1.grown hb, H22.out.2.2.2.2.2.2.2.2.2.1.grown hb, blk_below H22.out.2.2.2.2.2.2.2.2.2.2.1 hb (Array.getElem?_eq_some_iff.1 H22.out.2.2.2.2.2.2.2.2.2.2.1).1, H22.out.2.2.2.2.2.2.2.2.2.2.2.1.grown hb, blk_below H22.out.2.2.2.2.2.2.2.2.2.2.2.2.1 hb (Array.getElem?_eq_some_iff.1 H22.out.2.2.2.2.2.2.2.2.2.2.2.2.1).1, H22.out.2.2.2.2.2.2.2.2.2.2.2.2.2.1.grown hb, blk_below H22.out.2.2.2.2.2.2.2.2.2.2.2.2.2.2.1 hb (Array.getElem?_eq_some_iff.1 H22.out.2.2.2.2.2.2.2.2.2.2.2.2.2.2.1).1, H22.out.2.2.2.2.2.2.2.2.2.2.2.2.2.2.2.1.grown hb, H22.out.2.2.2.2.2.2.2.2.2.2.2.2.2.2.2.2.1.grown hb, blk_below H22.out.2.2.2.2.2.2.2.2.2.2.2.2.2.2.2.2.2.1 hb (Array.getElem?_eq_some_iff.1 H22.out.2.2.2.2.2.2.2.2.2.2.2.2.2.2.2.2.2.1).1, blk_below H22.out.2.2.2.2.2.2.2.2.2.2.2.2.2.2.2.2.2.2.1 hb (Array.getElem?_eq_some_iff.1 H22.out.2.2.2.2.2.2.2.2.2.2.2.2.2.2.2.2.2.2.1).1, H22.out.2.2.2.2.2.2.2.2.2.2.2.2.2.2.2.2.2.2.2.1.grown hb, H22.out.2.2.2.2.2.2.2.2.2.2.2.2.2.2.2.2.2.2.2.2.1.grown hb, blk_below H22.out.2.2.2.2.2.2.2.2.2.2.2.2.2.2.2.2.2.2.2.2.2.1 hb (Array.getElem?_eq_some_iff.1 H22.out.2.2.2.2.2.2.2.2.2.2.2.2.2.2.2.2.2.2.2.2.2.1).1, blk_below H22.out.2.2.2.2.2.2.2.2.2.2.2.2.2.2.2.2.2.2.2.2.2.2 hb (Array.getElem?_eq_some_iff.1 H22.out.2.2.2.2.2.2.2.2.2.2.2.2.2.2.2.2.2.2.2.2.2.2).1⟩)
  clear H22
  clear hb
  have x00 := blk_cell H23.out.2.2.2.2.2.2.2.2.2.2.2.2.2.2.2.2.2.2.1 0
  have x01 := blk_cell H23.out.2.2.2.2.2.2.2.2.2.2.2.2.2.2.2.2.2.2.1 1
  simp at x00 x01
  have x10 := blk_cell H23.out.2.2.2.2.2.2.2.2.2.2.1 0
  have x11 := blk_cell H23.out.2.2.2.2.2.2.2.2.2.2.1 1
  simp at x10 x11
  go_wp2_with fail
  clear x00 x01 x10 x11
  refine (same_t ((a7, n7, c7), (b7, m7, d7)) ((a4, n4, c4), (b4, m4, d4)) [p7] [] W23 H23.out.2.2.2.2.2.2.2.2.2.2.2.2.2.2.2.2.1 H23.out.2.2.2.2.2.2.2.2.2.1).mono ?_
  rintro e W24 ⟨rfl, hb⟩
  have H24 := Lib.hid (show _ ∧ _ ∧ _ ∧ _ ∧ _ ∧ _ ∧ _ ∧ _ ∧ _ ∧ _ ∧ _ ∧ _ ∧ _ ∧ _ ∧ _ ∧ _ ∧ _ ∧ _ ∧ _ ∧ _ ∧ _ ∧ _ ∧ _ from ⟨below_after H23.out.1 hb H23.out.1.size, H23.out.2.1.grown hb, blk_below H23.out.2.2.1 hb (Array.getElem?_eq_some_iff.1 H23.out.2.2.1).1, blk_below H23.out.2.2.2.1 hb (Array.getElem?_eq_some_iff.1 H23.out.2.2.2.1).1, blk_below H23.out.2.2.2.2.1 hb (Array.getElem?_eq_some_iff.1 H23.out.2.2.2.2.1).1, blk_below H23.out.2.2.2.2.2.1 hb (Array.getElem?_eq_some_iff.1 H23.out.2.2.2.2.2.1).1, blk_below H23.out.2.2.2.2.2.2.1 hb (Array.getElem?_eq_some_iff.1 H23.out.2.2.2.2.2.2.1).1, blk_below H23.out.2.2.2.2.2.2.2.1 hb (Array.getElem?_eq_some_iff.1 H23.out.2.2.2.2.2.2.2.1).1, H23.out.2.2.2.2.2.2.2.2.1.grown hb, H23.out.2.2.2.2.2.2.2.2.2.1.grown hb, blk_below H23.out.2.2.2.2.2.2.2.2.2.2.1 hb (Array.getElem?_eq_some_iff.1 H23.out.2.2.2.2.2.2.2.2.2.2.1).1, H23.out.2.2.2.2.2.2.2.2.2.2.2.1.grown hb, blk_below H23.out.2.2.2.2.2.2.2.2.2.2.2.2.1 hb (Array.getElem?_eq_some_iff.1 H23.out.2.2.2.2.2.2.2.2.2.2.2.2.1).1, H23.out.2.2.2.2.2.2.2.2.2.2.2.2.2.1.grown hb, blk_below H23.out.2.2.2.2.2.2.2.2.2.2.2.2.2.2.1 hb (Array.getElem?_eq_some_iff.1 H23.out.2.2.2.2.2.2.2.2.2.2.2.2.2.2.1).1, H23.out.2.2.2.2.2.2.2.2.2.2.2.2.2.2.2.1.grown hb, H23.out.2.2.2.2.2.2.2.2.2.2.2.2.2.2.2.2.1.grown hb, blk_below H23.out.2.2.2.2.2.2.2.2.2.2.2.2.2.2.2.2.2.1 hb (Array.getElem?_eq_some_iff.1 H23.out.2.2.2.2.2.2.2.2.2.2.2.2.2.2.2.2.2.1).1, blk_below H23.out.2.2.2.2.2.2.2.2.2.2.2.2.2.2.2.2.2.2.1 hb (Array.getElem?_eq_some_iff.1 H23.out.2.2.2.2.2.2.2.2.2.2.2.2.2.2.2.2.2.2.1).1, H23.out.2.2.2.2.2.2.2.2.2.2.2.2.2.2.2.2.2.2.2.1.grown hb, H23.out.2.2.2.2.2.2.2.2.2.2.2.2.2.2.2.2.2.2.2.2.1.grown hb, blk_below H23.out.2.2.2.2.2.2.2.2.2.2.2.2.2.2.2.2.2.2.2.2.2.1 hb (Array.getElem?_eq_some_iff.1 H23.out.2.2.2.2.2.2.2.2.2.2.2.2.2.2.2.2.2.2.2.2.2.1).1, blk_below H23.out.2.2.2.2.2.2.2.2.2.2.2.2.2.2.2.2.2.2.2.2.2.2 hb (Array.getElem?_eq_some_iff.1 H23.out.2.2.2.2.2.2.2.2.2.2.2.2.2.2.2.2.2.2.2.2.2.2).1⟩)
  clear H23
  clear hb
  have hn6 := H24.out.2.2.2.2.2.2.2.2.2.2.2.2.2.1.lenQ
  have hm6 := H24.out.2.2.2.2.2.2.2.2.2.2.2.2.2.1.lenP
  obtain rfl : n6 = 2 := hn6
  obtain rfl : m6 = 1 := hm6
  obtain ⟨_, _, _, _, pb, po, _, _, _, hA⟩ := H24.out.2.2.2.2.2.2.2.2.2.2.2.2.2.1.ex
  obtain ⟨hb6, _⟩ := hA.2.1 (Nat.succ_pos 0)
  obtain rfl : b6 = some ⟨pb, po, none⟩ := hb6
  obtain ⟨y0, y1⟩ := hA.2.2 0 (Nat.succ_pos 0)
  have y0' : W24.cell? ⟨pb, po, none⟩ = some (.int .i64 1) := by simpa [nthQ] using y0
  have y1' : W24.cell? ⟨pb, po + 1, none⟩ = some (.int .i64 3) := by simpa [nthQ] using y1
  clear y0 y1 hA
  have hrun := run_eqQ (1, 3) (1, 3)
  dsimp only [encQ] at hrun
  rw [decide_eq_true rfl] at hrun
  have z0 := blk_cell H24.out.2.2.2.2.2.2.2.2.2.2.2.2.2.2.1 0
  have z1 := blk_cell H24.out.2.2.2.2.2.2.2.2.2.2.2.2.2.2.1 1
  simp at z0 z1
  go_wp2
  exact bodyPost_ret (v := .bool true) (by simp [results, Try.results9, go_sem]) rfl ⟨rfl, H24.out.1⟩
end Go.Proofs.Ythgbkdaimnejeaa
