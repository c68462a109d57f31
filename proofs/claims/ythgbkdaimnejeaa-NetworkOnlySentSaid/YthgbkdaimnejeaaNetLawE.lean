/- NetworkCuts (layer 6). -/
import Derived.Test.YthgbkdaimnejeaaNetFar
namespace Go.Proofs.Ythgbkdaimnejeaa
open Go.ChangeShapes Go.WideShapes Go.ChangeAt Go.RowKit Go.Sort Go.Shelf

theorem okAn_of {A : List Qt} (hs : A.Pairwise ltQ) (hi : ∀ q ∈ A, 0 ≤ q.1 ∧ q.1 < q.2 ∧ q.2 < 16) : okAn A A.length := fun i hl => by
  have hm := hi (nthQ A i) (nthQ_mem hl)
  refine ⟨by unfold prt; omega, by omega, fun h0 => ?_⟩
  rw [nthQ_get hl, nthQ_get (show i - 1 < A.length by omega)]
  exact List.pairwise_iff_getElem.1 hs (i - 1) i (by omega) hl (by omega)
theorem cut_ok {A : List Qt} (hs : A.Pairwise ltQ) (hi : ∀ q ∈ A, 0 ≤ q.1 ∧ q.1 < q.2 ∧ q.2 < 16) {p : Qt} (hp : 0 ≤ p.1 ∧ p.1 < p.2 ∧ p.2 < 16) (on : Bool) : okAn (cutL A p on) (cutL A p on).length :=
  okAn_of (cutL_sorted hs p on) fun q hq => by
    rcases (cutL_mem A p on q).1 hq with ⟨h, _⟩ | ⟨_, rfl⟩
    · exact hi q h
    · exact hp
theorem cut_again {A : List Qt} (hs : A.Pairwise ltQ) (p : Qt) : cutL (cutL A p true) p true = cutL A p true :=
  sorted_eq (cutL_sorted (cutL_sorted hs p true) p true) (cutL_sorted hs p true) fun q => by
    rw [cutL_mem, cutL_mem]
    constructor
    · rintro (⟨h, _⟩ | h)
      · exact h
      · exact .inr h
    · rintro (h | h)
      · exact .inl ⟨.inl h, h.2⟩
      · exact .inr h
theorem cut_mend {A : List Qt} (hs : A.Pairwise ltQ) (p : Qt) : cutL (cutL A p true) p false = cutL A p false :=
  sorted_eq (cutL_sorted (cutL_sorted hs p true) p false) (cutL_sorted hs p false) fun q => by
    rw [cutL_mem, cutL_mem, cutL_mem]
    constructor
    · rintro (⟨h | h, h2⟩ | ⟨h, _⟩)
      · exact .inl h
      · exact absurd h.2 h2
      · cases h
    · rintro (h | ⟨h, _⟩)
      · exact .inl ⟨.inl h, h.2⟩
      · cases h
theorem insF_len (p : Qt) : ∀ l : List Qt, (insF p true l).length = l.length + 1
  | [] => rfl
  | q :: l => by
    rw [insF_cons]
    split
    · simp
    · simp [insF_len p l]
theorem cutL_one (A : List Qt) (p : Qt) : (cutL A p true).length = (cutL A p false).length + 1 := by
  rw [cutL_ins, cutL_ins, insF_len, insF_off]
theorem del_in {A : List Qt} {m : Pk} (h : prQ m.1 m.2.1 ∈ A) : delS A m = zP := by unfold delS; rw [if_pos h]
theorem del_out {A : List Qt} {m : Pk} (h : ¬ prQ m.1 m.2.1 ∈ A) : delS A m = m := by unfold delS; rw [if_neg h]
theorem del_or (A : List Qt) (m : Pk) : delS A m = zP ∨ delS A m = m := by
  by_cases h : prQ m.1 m.2.1 ∈ A
  · exact .inl (del_in h)
  · exact .inr (del_out h)
theorem del_same {A B : List Qt} {m : Pk} (h : prQ m.1 m.2.1 ∈ A ↔ prQ m.1 m.2.1 ∈ B) : delS A m = delS B m := by
  by_cases g : prQ m.1 m.2.1 ∈ A
  · rw [del_in g, del_in (h.1 g)]
  · rw [del_out g, del_out fun k => g (h.2 k)]
theorem prQ_inv {x y a b : Int} (_ : prt x y) (h : prQ x y = prQ a b) : (x = a ∧ y = b) ∨ (x = b ∧ y = a) := by
  rw [rprQ, rprQ] at h
  split at h <;> split at h <;> simp only [Prod.mk.injEq] at h <;> omega
set_option maxRecDepth 100000 in
set_option maxHeartbeats 8000000 in
theorem cuts_walk (x : Sl × Sl) (L : List Pk) (A : List Qt) (a b at' : Int) (w : World) (h : NetV w x L A) (ha : 0 ≤ at' ∧ at' ≤ 18446744073709551615) :
    Calls Try.prog 7 #[vN x, .int .i64 a, .int .i64 b, .int .u64 at'] w fun e w' => e = .returned (.bool true) ∧ Below w.heap.size w w' := by
  obtain ⟨⟨a0, n0, c0⟩, ⟨b0, m0, d0⟩⟩ := x
  dsimp only [vN] at *
  have H0 := Lib.hid (show _ ∧ _ from ⟨Below.refl w.heap.size w, h⟩)
  clear h
  go_enter Try.func7, Try.ntmps7
  go_upto_region 1 with fail
  have hb := ((Below.refl w.heap.size w).alloc (Nat.le_refl _) (.cells #[.slice a0 n0 c0, .slice b0 m0 d0] 25))
  have H1 := Lib.hid (show _ ∧ _ ∧ _ from ⟨below_after H0.out.1 hb H0.out.1.size, H0.out.2.grown hb, blk_new w (.cells #[.slice a0 n0 c0, .slice b0 m0 d0] 25)⟩)
  clear H0
  clear hb
  generalize hzW1 : w.alloc (.cells #[.slice a0 n0 c0, .slice b0 m0 d0] 25) = W1 at *
  clear hzW1
  go_wp2_with fail
  refine (sane_any W1).mono ?_
  rintro e W2 ⟨rfl, hb⟩
  have H2 := Lib.hid (show _ ∧ _ ∧ _ from ⟨below_after H1.out.1 hb H1.out.1.size, H1.out.2.1.grown hb, blk_below H1.out.2.2 hb (Array.getElem?_eq_some_iff.1 H1.out.2.2).1⟩)
  clear H1
  clear hb
  have x00 := blk_cell H2.out.2.2 0
  have x01 := blk_cell H2.out.2.2 1
  simp at x00 x01
  go_wp2_with fail
  clear x00 x01
  refine (few_s ((a0, n0, c0), (b0, m0, d0)) L A W2 H2.out.2.1).mono ?_
  rintro e W3 ⟨rfl, hb⟩
  have H3 := Lib.hid (show _ ∧ _ ∧ _ from ⟨below_after H2.out.1 hb H2.out.1.size, H2.out.2.1.grown hb, blk_below H2.out.2.2 hb (Array.getElem?_eq_some_iff.1 H2.out.2.2).1⟩)
  clear H2
  clear hb
  by_cases hfew : L.length ≤ 40 ∧ A.length ≤ 40
  case neg =>
    rw [decide_eq_false hfew]
    clear hfew
    go_wp2
    exact bodyPost_ret (v := .bool true) (by simp [results, Try.results7, go_sem]) rfl ⟨rfl, H3.out.1⟩
  rw [decide_eq_true hfew]
  have hl40 := hfew.1
  clear hfew
  have x00 := blk_cell H3.out.2.2 0
  have x01 := blk_cell H3.out.2.2 1
  simp at x00 x01
  go_wp2_with fail
  clear x00 x01
  refine (check_s ((a0, n0, c0), (b0, m0, d0)) L A W3 H3.out.2.1).mono ?_
  rintro e W4 ⟨rfl, hb⟩
  have H4 := Lib.hid (show _ ∧ _ ∧ _ from ⟨below_after H3.out.1 hb H3.out.1.size, H3.out.2.1.grown hb, blk_below H3.out.2.2 hb (Array.getElem?_eq_some_iff.1 H3.out.2.2).1⟩)
  clear H3
  clear hb
  by_cases hN : NOk L A
  case neg =>
    rw [chkS_no hN]
    clear hN
    go_wp2
    exact bodyPost_ret (v := .bool true) (by simp [results, Try.results7, go_sem]) rfl ⟨rfl, H4.out.1⟩
  rw [chkS_yes hN]
  have HN := Lib.hid hN
  clear hN
  have HLN := Lib.hid (show n0 = L.length from H4.out.2.1.lenQ)
  have hn40 : n0 ≤ 40 := by rw [HLN.out]; exact hl40
  clear hl40
  by_cases hp : prt a b
  case neg =>
    have x00 := blk_cell H4.out.2.2 0
    have x01 := blk_cell H4.out.2.2 1
    simp at x00 x01
    go_wp2_with fail
    clear x00 x01
    refine (cut_s ((a0, n0, c0), (b0, m0, d0)) L A a b true W4 H4.out.2.1).mono ?_
    rintro e We81 ⟨⟨⟨a1, n1, c1⟩, ⟨b1, m1, d1⟩⟩, rfl, hN, hb⟩
    have he : cutS L A a b true = (1, [], []) := by unfold cutS; rw [if_pos HN.out, if_neg hp]
    simp only [he]
    clear hN
    have He81 := Lib.hid (show _ ∧ _ ∧ _ from ⟨below_after H4.out.1 hb H4.out.1.size, H4.out.2.1.grown hb, blk_below H4.out.2.2 hb (Array.getElem?_eq_some_iff.1 H4.out.2.2).1⟩)
    clear H4
    clear hb
    dsimp only [vN]
    clear hp he
    go_wp2
    exact bodyPost_ret (v := .bool true) (by simp [results, Try.results7, go_sem]) rfl ⟨rfl, (by first | exact He81.out.1 | exact He81.out.1.alloc He81.out.1.size _)⟩
  obtain ⟨p, hpq⟩ : ∃ p, p = prQ a b := ⟨_, rfl⟩
  have hpi : 0 ≤ p.1 ∧ p.1 < p.2 ∧ p.2 < 16 := by rw [hpq]; exact prQ_in hp
  have hpba : prt b a := ⟨fun e => hp.1 e.symm, hp.2.2, hp.2.1⟩
  have hqba : prQ b a = p := by rw [hpq]; unfold prQ; rw [Int.min_comm, Int.max_comm]
  have hsA := okAn_sorted HN.out.2.2
  have hinA : ∀ q ∈ A, 0 ≤ q.1 ∧ q.1 < q.2 ∧ q.2 < 16 := fun q hq => okAn_in HN.out.2.2 hq
  have hX := cut_ok hsA hinA hpi true
  have hNX : NOk L (cutL A p true) := ⟨HN.out.1, HN.out.2.1, hX⟩
  have e1 : cutS L A a b true = (0, L, cutL A p true) := by unfold cutS; rw [if_pos HN.out, if_pos hp, ← hpq]
  have e2 : cutS L A b a true = (0, L, cutL A p true) := by unfold cutS; rw [if_pos HN.out, if_pos hpba, hqba]
  have e3 : cutS L (cutL A p true) a b true = (0, L, cutL A p true) := by unfold cutS; rw [if_pos hNX, if_pos hp, ← hpq, cut_again hsA]
  have e4 : cutS L (cutL A p true) b a false = (0, L, cutL A p false) := by unfold cutS; rw [if_pos hNX, if_pos hpba, hqba, cut_mend hsA]
  have e5 : cutS L A a b false = (0, L, cutL A p false) := by unfold cutS; rw [if_pos HN.out, if_pos hp, ← hpq]
  have hlen := cutL_one A p
  have hNY : NOk L (cutL A p false) := ⟨HN.out.1, HN.out.2.1, cut_ok hsA hinA hpi false⟩
  have HNX := Lib.hid (show NOk L (cutL A p true) ∧ NOk L (cutL A p false) from ⟨hNX, hNY⟩)
  clear hNY
  have HE := Lib.hid (show _ ∧ _ ∧ _ ∧ _ ∧ _ ∧ _ ∧ _ ∧ _ from ⟨e1, e2, e3, e4, e5, hlen, hp, hpq⟩)
  clear hpi hpba hqba hsA hinA hX hNX e1 e2 e3 e4 e5 hlen hp hpq
  have x00 := blk_cell H4.out.2.2 0
  have x01 := blk_cell H4.out.2.2 1
  simp at x00 x01
  go_wp2_with fail
  clear x00 x01
  refine (cut_s ((a0, n0, c0), (b0, m0, d0)) L A a b true W4 H4.out.2.1).mono ?_
  rintro e W5 ⟨⟨⟨a1, n1, c1⟩, ⟨b1, m1, d1⟩⟩, rfl, hN, hb⟩
  rw [HE.out.1] at hN
  simp only [HE.out.1]
  have H5 := Lib.hid (show _ ∧ _ ∧ _ ∧ _ from ⟨below_after H4.out.1 hb H4.out.1.size, H4.out.2.1.grown hb, blk_below H4.out.2.2 hb (Array.getElem?_eq_some_iff.1 H4.out.2.2).1, hN⟩)
  clear H4
  clear hb
  dsimp only [vN] at *
  clear hN
  go_upto_region 6 with fail
  have hb := ((Below.refl W5.heap.size W5).alloc (Nat.le_refl _) (.cells #[.slice a1 n1 c1, .slice b1 m1 d1] 25))
  have H6 := Lib.hid (show _ ∧ _ ∧ _ ∧ _ ∧ _ from ⟨below_after H5.out.1 hb H5.out.1.size, H5.out.2.1.grown hb, blk_below H5.out.2.2.1 hb (Array.getElem?_eq_some_iff.1 H5.out.2.2.1).1, H5.out.2.2.2.grown hb, blk_new W5 (.cells #[.slice a1 n1 c1, .slice b1 m1 d1] 25)⟩)
  clear H5
  clear hb
  generalize hzW6 : W5.alloc (.cells #[.slice a1 n1 c1, .slice b1 m1 d1] 25) = W6 at *
  clear hzW6
  go_upto_region 8 with fail
  have x00 := blk_cell H6.out.2.2.1 0
  have x01 := blk_cell H6.out.2.2.1 1
  simp at x00 x01
  go_wp2_with fail
  clear x00 x01
  refine (cut_s ((a0, n0, c0), (b0, m0, d0)) L A b a true W6 H6.out.2.1).mono ?_
  rintro e W7 ⟨⟨⟨a2, n2, c2⟩, ⟨b2, m2, d2⟩⟩, rfl, hN, hb⟩
  rw [HE.out.2.1] at hN
  simp only [HE.out.2.1]
  have H7 := Lib.hid (show _ ∧ _ ∧ _ ∧ _ ∧ _ ∧ _ from ⟨below_after H6.out.1 hb H6.out.1.size, H6.out.2.1.grown hb, blk_below H6.out.2.2.1 hb (Array.getElem?_eq_some_iff.1 H6.out.2.2.1).1, H6.out.2.2.2.1.grown hb, blk_below H6.out.2.2.2.2 hb (Array.getElem?_eq_some_iff.1 H6.out.2.2.2.2).1, hN⟩)
  clear H6
  clear hb
  dsimp only [vN] at *
  clear hN
  go_upto_region 9 with fail
  have hb := ((Below.refl W7.heap.size W7).alloc (Nat.le_refl _) (.cells #[.slice a2 n2 c2, .slice b2 m2 d2] 25))
  have H8 := Lib.hid (show _ ∧ _ ∧ _ ∧ _ ∧ _ ∧ _ ∧ _ from ⟨below_after H7.out.1 hb H7.out.1.size, H7.out.2.1.grown hb, blk_below H7.out.2.2.1 hb (Array.getElem?_eq_some_iff.1 H7.out.2.2.1).1, H7.out.2.2.2.1.grown hb, blk_below H7.out.2.2.2.2.1 hb (Array.getElem?_eq_some_iff.1 H7.out.2.2.2.2.1).1, H7.out.2.2.2.2.2.grown hb, blk_new W7 (.cells #[.slice a2 n2 c2, .slice b2 m2 d2] 25)⟩)
  clear H7
  clear hb
  generalize hzW8 : W7.alloc (.cells #[.slice a2 n2 c2, .slice b2 m2 d2] 25) = W8 at *
  clear hzW8
  have x00 := blk_cell H8.out.2.2.2.2.1 0
  have x01 := blk_cell H8.out.2.2.2.2.1 1
  simp at x00 x01
  go_wp2_with fail
  clear x00 x01
  refine (cut_s ((a1, n1, c1), (b1, m1, d1)) L (cutL A p true) a b true W8 H8.out.2.2.2.1).mono ?_
  rintro e W9 ⟨⟨⟨a3, n3, c3⟩, ⟨b3, m3, d3⟩⟩, rfl, hN, hb⟩
  rw [HE.out.2.2.1] at hN
  simp only [HE.out.2.2.1]
  have H9 := Lib.hid (show _ ∧ _ ∧ _ ∧ _ ∧ _ ∧ _ ∧ _ ∧ _ from ⟨below_after H8.out.1 hb H8.out.1.size, H8.out.2.1.grown hb, blk_below H8.out.2.2.1 hb (Array.getElem?_eq_some_iff.1 H8.out.2.2.1).1, H8.out.2.2.2.1.grown hb, blk_below H8.out.2.2.2.2.1 hb (Array.getElem?_eq_some_iff.1 H8.out.2.2.2.2.1).1, H8.out.2.2.2.2.2.1.grown hb, blk_below H8.out.2.2.2.2.2.2 hb (Array.getElem?_eq_some_iff.1 H8.out.2.2.2.2.2.2).1, hN⟩)
  clear H8
  clear hb
  dsimp only [vN] at *
  clear hN
  go_upto_region 10 with fail
  have hb := ((Below.refl W9.heap.size W9).alloc (Nat.le_refl _) (.cells #[.slice a3 n3 c3, .slice b3 m3 d3] 25))
  have H10 := Lib.hid (show _ ∧ _ ∧ _ ∧ _ ∧ _ ∧ _ ∧ _ ∧ _ ∧ _ from ⟨below_after H9.out.1 hb H9.out.1.size, H9.out.2.1.grown hb, blk_below H9.out.2.2.1 hb (Array.getElem?_eq_some_iff.1 H9.out.2.2.1).1, H9.out.2.2.2.1.grown hb, blk_below H9.out.2.2.2.2.1 hb (Array.getElem?_eq_some_iff.1 H9.out.2.2.2.2.1).1, H9.out.2.2.2.2.2.1.grown hb, blk_below H9.out.2.2.2.2.2.2.1 hb (Array.getElem?_eq_some_iff.1 H9.out.2.2.2.2.2.2.1).1, H9.out.2.2.2.2.2.2.2.grown hb, blk_new W9 (.cells #[.slice a3 n3 c3, .slice b3 m3 d3] 25)⟩)
  clear H9
  clear hb
  generalize hzW10 : W9.alloc (.cells #[.slice a3 n3 c3, .slice b3 m3 d3] 25) = W10 at *
  clear hzW10
  have x00 := blk_cell H10.out.2.2.2.2.1 0
  have x01 := blk_cell H10.out.2.2.2.2.1 1
  simp at x00 x01
  go_wp2_with fail
  clear x00 x01
  refine (cut_s ((a1, n1, c1), (b1, m1, d1)) L (cutL A p true) b a false W10 H10.out.2.2.2.1).mono ?_
  rintro e W11 ⟨⟨⟨a4, n4, c4⟩, ⟨b4, m4, d4⟩⟩, rfl, hN, hb⟩
  rw [HE.out.2.2.2.1] at hN
  simp only [HE.out.2.2.2.1]
  have H11 := Lib.hid (show _ ∧ _ ∧ _ ∧ _ ∧ _ ∧ _ ∧ _ ∧ _ ∧ _ ∧ _ from ⟨below_after H10.out.1 hb H10.out.1.size, H10.out.2.1.grown hb, blk_below H10.out.2.2.1 hb (Array.getElem?_eq_some_iff.1 H10.out.2.2.1).1, H10.out.2.2.2.1.grown hb, blk_below H10.out.2.2.2.2.1 hb (Array.getElem?_eq_some_iff.1 H10.out.2.2.2.2.1).1, H10.out.2.2.2.2.2.1.grown hb, blk_below H10.out.2.2.2.2.2.2.1 hb (Array.getElem?_eq_some_iff.1 H10.out.2.2.2.2.2.2.1).1, H10.out.2.2.2.2.2.2.2.1.grown hb, blk_below H10.out.2.2.2.2.2.2.2.2 hb (Array.getElem?_eq_some_iff.1 H10.out.2.2.2.2.2.2.2.2).1, hN⟩)
  clear H10
  clear hb
  dsimp only [vN] at *
  clear hN
  go_upto_region 11 with fail
  have hb := ((Below.refl W11.heap.size W11).alloc (Nat.le_refl _) (.cells #[.slice a4 n4 c4, .slice b4 m4 d4] 25))
  have H12 := Lib.hid (show _ ∧ _ ∧ _ ∧ _ ∧ _ ∧ _ ∧ _ ∧ _ ∧ _ ∧ _ ∧ _ from ⟨below_after H11.out.1 hb H11.out.1.size, H11.out.2.1.grown hb, blk_below H11.out.2.2.1 hb (Array.getElem?_eq_some_iff.1 H11.out.2.2.1).1, H11.out.2.2.2.1.grown hb, blk_below H11.out.2.2.2.2.1 hb (Array.getElem?_eq_some_iff.1 H11.out.2.2.2.2.1).1, H11.out.2.2.2.2.2.1.grown hb, blk_below H11.out.2.2.2.2.2.2.1 hb (Array.getElem?_eq_some_iff.1 H11.out.2.2.2.2.2.2.1).1, H11.out.2.2.2.2.2.2.2.1.grown hb, blk_below H11.out.2.2.2.2.2.2.2.2.1 hb (Array.getElem?_eq_some_iff.1 H11.out.2.2.2.2.2.2.2.2.1).1, H11.out.2.2.2.2.2.2.2.2.2.grown hb, blk_new W11 (.cells #[.slice a4 n4 c4, .slice b4 m4 d4] 25)⟩)
  clear H11
  clear hb
  generalize hzW12 : W11.alloc (.cells #[.slice a4 n4 c4, .slice b4 m4 d4] 25) = W12 at *
  clear hzW12
  have x00 := blk_cell H12.out.2.2.1 0
  have x01 := blk_cell H12.out.2.2.1 1
  simp at x00 x01
  go_wp2_with fail
  clear x00 x01
  refine (cut_s ((a0, n0, c0), (b0, m0, d0)) L A a b false W12 H12.out.2.1).mono ?_
  rintro e W13 ⟨⟨⟨a5, n5, c5⟩, ⟨b5, m5, d5⟩⟩, rfl, hN, hb⟩
  rw [HE.out.2.2.2.2.1] at hN
  simp only [HE.out.2.2.2.2.1]
  have H13 := Lib.hid (show _ ∧ _ ∧ _ ∧ _ ∧ _ ∧ _ ∧ _ ∧ _ ∧ _ ∧ _ ∧ _ ∧ _ from ⟨below_after H12.out.1 hb H12.out.1.size, H12.out.2.1.grown hb, blk_below H12.out.2.2.1 hb (Array.getElem?_eq_some_iff.1 H12.out.2.2.1).1, H12.out.2.2.2.1.grown hb, blk_below H12.out.2.2.2.2.1 hb (Array.getElem?_eq_some_iff.1 H12.out.2.2.2.2.1).1, H12.out.2.2.2.2.2.1.grown hb, blk_below H12.out.2.2.2.2.2.2.1 hb (Array.getElem?_eq_some_iff.1 H12.out.2.2.2.2.2.2.1).1, H12.out.2.2.2.2.2.2.2.1.grown hb, blk_below H12.out.2.2.2.2.2.2.2.2.1 hb (Array.getElem?_eq_some_iff.1 H12.out.2.2.2.2.2.2.2.2.1).1, H12.out.2.2.2.2.2.2.2.2.2.1.grown hb, blk_below H12.out.2.2.2.2.2.2.2.2.2.2 hb (Array.getElem?_eq_some_iff.1 H12.out.2.2.2.2.2.2.2.2.2.2).1, hN⟩)
  clear H12
  clear hb
  dsimp only [vN] at *
  clear hN
  go_upto_region 12 with fail
  have hb := ((Below.refl W13.heap.size W13).alloc (Nat.le_refl _) (.cells #[.slice a5 n5 c5, .slice b5 m5 d5] 25))
  have H14 := Lib.hid (show _ ∧ _ ∧ _ ∧ _ ∧ _ ∧ _ ∧ _ ∧ _ ∧ _ ∧ _ ∧ _ ∧ _ ∧ _ from ⟨below_after H13.out.1 hb H13.out.1.size, H13.out.2.1.grown hb, blk_below H13.out.2.2.1 hb (Array.getElem?_eq_some_iff.1 H13.out.2.2.1).1, H13.out.2.2.2.1.grown hb, blk_below H13.out.2.2.2.2.1 hb (Array.getElem?_eq_some_iff.1 H13.out.2.2.2.2.1).1, H13.out.2.2.2.2.2.1.grown hb, blk_below H13.out.2.2.2.2.2.2.1 hb (Array.getElem?_eq_some_iff.1 H13.out.2.2.2.2.2.2.1).1, H13.out.2.2.2.2.2.2.2.1.grown hb, blk_below H13.out.2.2.2.2.2.2.2.2.1 hb (Array.getElem?_eq_some_iff.1 H13.out.2.2.2.2.2.2.2.2.1).1, H13.out.2.2.2.2.2.2.2.2.2.1.grown hb, blk_below H13.out.2.2.2.2.2.2.2.2.2.2.1 hb (Array.getElem?_eq_some_iff.1 H13.out.2.2.2.2.2.2.2.2.2.2.1).1, H13.out.2.2.2.2.2.2.2.2.2.2.2.grown hb, blk_new W13 (.cells #[.slice a5 n5 c5, .slice b5 m5 d5] 25)⟩)
  clear H13
  clear hb
  generalize hzW14 : W13.alloc (.cells #[.slice a5 n5 c5, .slice b5 m5 d5] 25) = W14 at *
  clear hzW14
  have x00 := blk_cell H14.out.2.2.2.2.1 0
  have x01 := blk_cell H14.out.2.2.2.2.1 1
  simp at x00 x01
  have x10 := blk_cell H14.out.2.2.2.2.2.2.1 0
  have x11 := blk_cell H14.out.2.2.2.2.2.2.1 1
  simp at x10 x11
  go_wp2_with fail
  clear x00 x01 x10 x11
  refine (same_t ((a1, n1, c1), (b1, m1, d1)) ((a2, n2, c2), (b2, m2, d2)) L (cutL A p true) W14 H14.out.2.2.2.1 H14.out.2.2.2.2.2.1).mono ?_
  rintro e W15 ⟨rfl, hb⟩
  have H15 := Lib.hid (show _ ∧ _ ∧ _ ∧ _ ∧ _ ∧ _ ∧ _ ∧ _ ∧ _ ∧ _ ∧ _ ∧ _ ∧ _ from ⟨below_after H14.out.1 hb H14.out.1.size, H14.out.2.1.grown hb, blk_below H14.out.2.2.1 hb (Array.getElem?_eq_some_iff.1 H14.out.2.2.1).1, H14.out.2.2.2.1.grown hb, blk_below H14.out.2.2.2.2.1 hb (Array.getElem?_eq_some_iff.1 H14.out.2.2.2.2.1).1, H14.out.2.2.2.2.2.1.grown hb, blk_below H14.out.2.2.2.2.2.2.1 hb (Array.getElem?_eq_some_iff.1 H14.out.2.2.2.2.2.2.1).1, H14.out.2.2.2.2.2.2.2.1.grown hb, blk_below H14.out.2.2.2.2.2.2.2.2.1 hb (Array.getElem?_eq_some_iff.1 H14.out.2.2.2.2.2.2.2.2.1).1, H14.out.2.2.2.2.2.2.2.2.2.1.grown hb, blk_below H14.out.2.2.2.2.2.2.2.2.2.2.1 hb (Array.getElem?_eq_some_iff.1 H14.out.2.2.2.2.2.2.2.2.2.2.1).1, H14.out.2.2.2.2.2.2.2.2.2.2.2.1.grown hb, blk_below H14.out.2.2.2.2.2.2.2.2.2.2.2.2 hb (Array.getElem?_eq_some_iff.1 H14.out.2.2.2.2.2.2.2.2.2.2.2.2).1⟩)
  clear H14
  clear hb
  have x00 := blk_cell H15.out.2.2.2.2.1 0
  have x01 := blk_cell H15.out.2.2.2.2.1 1
  simp at x00 x01
  have x10 := blk_cell H15.out.2.2.2.2.2.2.2.2.1 0
  have x11 := blk_cell H15.out.2.2.2.2.2.2.2.2.1 1
  simp at x10 x11
  go_wp2_with fail
  clear x00 x01 x10 x11
  refine (same_t ((a1, n1, c1), (b1, m1, d1)) ((a3, n3, c3), (b3, m3, d3)) L (cutL A p true) W15 H15.out.2.2.2.1 H15.out.2.2.2.2.2.2.2.1).mono ?_
  rintro e W16 ⟨rfl, hb⟩
  have H16 := Lib.hid (show _ ∧ _ ∧ _ ∧ _ ∧ _ ∧ _ ∧ _ ∧ _ ∧ _ ∧ _ ∧ _ ∧ _ ∧ _ from ⟨below_after H15.out.1 hb H15.out.1.size, H15.out.2.1.grown hb, blk_below H15.out.2.2.1 hb (Array.getElem?_eq_some_iff.1 H15.out.2.2.1).1, H15.out.2.2.2.1.grown hb, blk_below H15.out.2.2.2.2.1 hb (Array.getElem?_eq_some_iff.1 H15.out.2.2.2.2.1).1, H15.out.2.2.2.2.2.1.grown hb, blk_below H15.out.2.2.2.2.2.2.1 hb (Array.getElem?_eq_some_iff.1 H15.out.2.2.2.2.2.2.1).1, H15.out.2.2.2.2.2.2.2.1.grown hb, blk_below H15.out.2.2.2.2.2.2.2.2.1 hb (Array.getElem?_eq_some_iff.1 H15.out.2.2.2.2.2.2.2.2.1).1, H15.out.2.2.2.2.2.2.2.2.2.1.grown hb, blk_below H15.out.2.2.2.2.2.2.2.2.2.2.1 hb (Array.getElem?_eq_some_iff.1 H15.out.2.2.2.2.2.2.2.2.2.2.1).1, H15.out.2.2.2.2.2.2.2.2.2.2.2.1.grown hb, blk_below H15.out.2.2.2.2.2.2.2.2.2.2.2.2 hb (Array.getElem?_eq_some_iff.1 H15.out.2.2.2.2.2.2.2.2.2.2.2.2).1⟩)
  clear H15
  clear hb
  have x00 := blk_cell H16.out.2.2.2.2.2.2.2.2.2.2.1 0
  have x01 := blk_cell H16.out.2.2.2.2.2.2.2.2.2.2.1 1
  simp at x00 x01
  have x10 := blk_cell H16.out.2.2.2.2.2.2.2.2.2.2.2.2 0
  have x11 := blk_cell H16.out.2.2.2.2.2.2.2.2.2.2.2.2 1
  simp at x10 x11
  go_wp2_with fail
  clear x00 x01 x10 x11
  refine (same_t ((a4, n4, c4), (b4, m4, d4)) ((a5, n5, c5), (b5, m5, d5)) L (cutL A p false) W16 H16.out.2.2.2.2.2.2.2.2.2.1 H16.out.2.2.2.2.2.2.2.2.2.2.2.1).mono ?_
  rintro e W17 ⟨rfl, hb⟩
  have H17 := Lib.hid (show _ ∧ _ ∧ _ ∧ _ ∧ _ ∧ _ ∧ _ ∧ _ ∧ _ ∧ _ ∧ _ ∧ _ ∧ _ from ⟨below_after H16.out.1 hb H16.out.1.size, H16.out.2.1.grown hb, blk_below H16.out.2.2.1 hb (Array.getElem?_eq_some_iff.1 H16.out.2.2.1).1, H16.out.2.2.2.1.grown hb, blk_below H16.out.2.2.2.2.1 hb (Array.getElem?_eq_some_iff.1 H16.out.2.2.2.2.1).1, H16.out.2.2.2.2.2.1.grown hb, blk_below H16.out.2.2.2.2.2.2.1 hb (Array.getElem?_eq_some_iff.1 H16.out.2.2.2.2.2.2.1).1, H16.out.2.2.2.2.2.2.2.1.grown hb, blk_below H16.out.2.2.2.2.2.2.2.2.1 hb (Array.getElem?_eq_some_iff.1 H16.out.2.2.2.2.2.2.2.2.1).1, H16.out.2.2.2.2.2.2.2.2.2.1.grown hb, blk_below H16.out.2.2.2.2.2.2.2.2.2.2.1 hb (Array.getElem?_eq_some_iff.1 H16.out.2.2.2.2.2.2.2.2.2.2.1).1, H16.out.2.2.2.2.2.2.2.2.2.2.2.1.grown hb, blk_below H16.out.2.2.2.2.2.2.2.2.2.2.2.2 hb (Array.getElem?_eq_some_iff.1 H16.out.2.2.2.2.2.2.2.2.2.2.2.2).1⟩)
  clear H16
  clear hb
  have hm1 : m1 = m5 + 1 := by have h1 := H17.out.2.2.2.1.lenP; have h5 := H17.out.2.2.2.2.2.2.2.2.2.2.2.1.lenP; have := HE.out.2.2.2.2.2.1; exact h1.trans (this.trans (by rw [← h5]))
  have hm5 : m5 ≤ 1000000 := by have h5 := H17.out.2.2.2.2.2.2.2.2.2.2.2.1.lenP; have := okAn_len HNX.out.2.2.2; exact Nat.le_trans (Nat.le_of_eq h5) (by omega)
  have hw3 : IntKind.i64.wrap ((m5 : Int) + 1) = (m1 : Int) := by rw [IntKind.wrap_i64, hm1]; omega
  have hw4 : ((m1 : Int) != (m1 : Int)) = false := by simp
  clear hm1
  have u0 := blk_cell H17.out.2.2.2.2.1 0
  have u1 := blk_cell H17.out.2.2.2.2.1 1
  simp at u0 u1
  have v0 := blk_cell H17.out.2.2.2.2.2.2.2.2.2.2.2.2 0
  have v1 := blk_cell H17.out.2.2.2.2.2.2.2.2.2.2.2.2 1
  simp at v0 v1
  go_upto_region 14 with fail
  clear hw3 hw4 hm5 u0 u1 v0 v1
  have x0 := blk_cell H17.out.2.2.1 0
  have x1 := blk_cell H17.out.2.2.1 1
  simp at x0 x1
  by_cases hz : n0 = 0
  · have z : ((n0 : Int) == 0) = true := by simp; omega
    clear hz
    go_wp2
    exact bodyPost_ret (v := .bool true) (by simp [results, Try.results7, go_sem]) rfl ⟨rfl, H17.out.1⟩
  have z : ((n0 : Int) == 0) = false := by simp; omega
  have hz' : ¬ (n0 : Int) = 0 := by omega
  obtain ⟨k, hk, hke⟩ : ∃ k : Nat, k < n0 ∧ at' % (n0 : Int) = k := ⟨(at' % (n0 : Int)).toNat, by have h1 := Int.emod_nonneg at' hz'; have h2 := Int.emod_lt_of_pos at' (show (0 : Int) < n0 by omega); omega, by have h1 := Int.emod_nonneg at' hz'; omega⟩
  have hw : wrap64 (at' % (n0 : Int)) = (k : Int) := by rw [hke]; unfold wrap64; omega
  clear hke
  have hkL : k < L.length := by rw [← HLN.out]; exact hk
  have HKL := Lib.hid hkL
  clear hkL
  go_upto_region 17 with fail
  simp only [hw]
  clear hw hz z hz' x0 x1
  have ha1 : askS L (cutL A p true) k = 0 := by unfold askS; rw [if_pos HNX.out.1, if_pos (by have := HKL.out; omega)]
  have ha2 : askS L (cutL A p false) k = 0 := by unfold askS; rw [if_pos HNX.out.2, if_pos (by have := HKL.out; omega)]
  obtain ⟨m, hm⟩ : ∃ m, m = L.getD k zP := ⟨_, rfl⟩
  have hmL : m ∈ L := by rw [hm, List.getD_eq_getElem?_getD, List.getElem?_eq_getElem HKL.out]; exact List.getElem_mem _
  have HS := Lib.hid (show _ ∧ _ ∧ _ ∧ _ from ⟨ha1, ha2, hm, HN.out.2.1 m hmL⟩)
  clear ha1 ha2 hm hmL
  have x00 := blk_cell H17.out.2.2.2.2.1 0
  have x01 := blk_cell H17.out.2.2.2.2.1 1
  simp at x00 x01
  go_wp2_with fail
  clear x00 x01
  refine (deliver_s ((a1, n1, c1), (b1, m1, d1)) L (cutL A p true) k W17 H17.out.2.2.2.1).mono ?_
  rintro e W18 ⟨⟨k60, k61, ka6, kn6, kc6⟩, ⟨⟨a6, n6, c6⟩, ⟨b6, m6, d6⟩⟩, rfl, hK, hN, hb⟩
  rw [HS.out.1, if_pos rfl, Int.toNat_natCast, ← HS.out.2.2.1] at hK
  simp only [HS.out.1]
  clear hN
  have H18 := Lib.hid (show _ ∧ _ ∧ _ ∧ _ ∧ _ ∧ _ ∧ _ ∧ _ ∧ _ ∧ _ ∧ _ ∧ _ ∧ _ ∧ _ from ⟨below_after H17.out.1 hb H17.out.1.size, H17.out.2.1.grown hb, blk_below H17.out.2.2.1 hb (Array.getElem?_eq_some_iff.1 H17.out.2.2.1).1, H17.out.2.2.2.1.grown hb, blk_below H17.out.2.2.2.2.1 hb (Array.getElem?_eq_some_iff.1 H17.out.2.2.2.2.1).1, H17.out.2.2.2.2.2.1.grown hb, blk_below H17.out.2.2.2.2.2.2.1 hb (Array.getElem?_eq_some_iff.1 H17.out.2.2.2.2.2.2.1).1, H17.out.2.2.2.2.2.2.2.1.grown hb, blk_below H17.out.2.2.2.2.2.2.2.2.1 hb (Array.getElem?_eq_some_iff.1 H17.out.2.2.2.2.2.2.2.2.1).1, H17.out.2.2.2.2.2.2.2.2.2.1.grown hb, blk_below H17.out.2.2.2.2.2.2.2.2.2.2.1 hb (Array.getElem?_eq_some_iff.1 H17.out.2.2.2.2.2.2.2.2.2.2.1).1, H17.out.2.2.2.2.2.2.2.2.2.2.2.1.grown hb, blk_below H17.out.2.2.2.2.2.2.2.2.2.2.2.2 hb (Array.getElem?_eq_some_iff.1 H17.out.2.2.2.2.2.2.2.2.2.2.2.2).1, hK⟩)
  clear H17
  clear hb
  dsimp only [vK, vN] at *
  clear hK
  go_upto_region 18 with fail
  have hb : Below W18.heap.size W18 ((W18.alloc (.cells #[.int .i64 k60, .int .i64 k61, .slice ka6 kn6 kc6] 28)).alloc (.cells #[.slice a6 n6 c6, .slice b6 m6 d6] 25)) := by go_grown
  have hk1 : ((W18.alloc (.cells #[.int .i64 k60, .int .i64 k61, .slice ka6 kn6 kc6] 28)).alloc (.cells #[.slice a6 n6 c6, .slice b6 m6 d6] 25)).heap[W18.heap.size]? = some (.cells #[.int .i64 k60, .int .i64 k61, .slice ka6 kn6 kc6] 28 (0, 0)) := blk_alloc (blk_new _ _) _
  have hk2 : ((W18.alloc (.cells #[.int .i64 k60, .int .i64 k61, .slice ka6 kn6 kc6] 28)).alloc (.cells #[.slice a6 n6 c6, .slice b6 m6 d6] 25)).heap[W18.heap.size + 1]? = some (.cells #[.slice a6 n6 c6, .slice b6 m6 d6] 25 (0, 0)) := by have := blk_new (W18.alloc (.cells #[.int .i64 k60, .int .i64 k61, .slice ka6 kn6 kc6] 28)) (.cells #[.slice a6 n6 c6, .slice b6 m6 d6] 25); rwa [World.size_alloc] at this
  have H19 := Lib.hid (show _ ∧ _ ∧ _ ∧ _ ∧ _ ∧ _ ∧ _ ∧ _ ∧ _ ∧ _ ∧ _ ∧ _ ∧ _ ∧ _ ∧ _ ∧ _ from ⟨below_after H18.out.1 hb H18.out.1.size, H18.out.2.1.grown hb, blk_below H18.out.2.2.1 hb (Array.getElem?_eq_some_iff.1 H18.out.2.2.1).1, H18.out.2.2.2.1.grown hb, blk_below H18.out.2.2.2.2.1 hb (Array.getElem?_eq_some_iff.1 H18.out.2.2.2.2.1).1, H18.out.2.2.2.2.2.1.grown hb, blk_below H18.out.2.2.2.2.2.2.1 hb (Array.getElem?_eq_some_iff.1 H18.out.2.2.2.2.2.2.1).1, H18.out.2.2.2.2.2.2.2.1.grown hb, blk_below H18.out.2.2.2.2.2.2.2.2.1 hb (Array.getElem?_eq_some_iff.1 H18.out.2.2.2.2.2.2.2.2.1).1, H18.out.2.2.2.2.2.2.2.2.2.1.grown hb, blk_below H18.out.2.2.2.2.2.2.2.2.2.2.1 hb (Array.getElem?_eq_some_iff.1 H18.out.2.2.2.2.2.2.2.2.2.2.1).1, H18.out.2.2.2.2.2.2.2.2.2.2.2.1.grown hb, blk_below H18.out.2.2.2.2.2.2.2.2.2.2.2.2.1 hb (Array.getElem?_eq_some_iff.1 H18.out.2.2.2.2.2.2.2.2.2.2.2.2.1).1, H18.out.2.2.2.2.2.2.2.2.2.2.2.2.2.grown hb, hk1, hk2⟩)
  clear H18
  clear hb hk1 hk2
  generalize hzW19 : ((W18.alloc (.cells #[.int .i64 k60, .int .i64 k61, .slice ka6 kn6 kc6] 28)).alloc (.cells #[.slice a6 n6 c6, .slice b6 m6 d6] 25)) = W19 at *
  clear hzW19
  have x00 := blk_cell H19.out.2.2.2.2.2.2.2.2.2.2.2.2.1 0
  have x01 := blk_cell H19.out.2.2.2.2.2.2.2.2.2.2.2.2.1 1
  simp at x00 x01
  go_wp2_with fail
  clear x00 x01
  refine (deliver_s ((a5, n5, c5), (b5, m5, d5)) L (cutL A p false) k W19 H19.out.2.2.2.2.2.2.2.2.2.2.2.1).mono ?_
  rintro e W20 ⟨⟨k70, k71, ka7, kn7, kc7⟩, ⟨⟨a7, n7, c7⟩, ⟨b7, m7, d7⟩⟩, rfl, hK, hN, hb⟩
  rw [HS.out.2.1, if_pos rfl, Int.toNat_natCast, ← HS.out.2.2.1] at hK
  simp only [HS.out.2.1]
  clear hN
  have H20 := Lib.hid (show _ ∧ _ ∧ _ ∧ _ ∧ _ ∧ _ ∧ _ ∧ _ ∧ _ ∧ _ ∧ _ ∧ _ ∧ _ ∧ _ ∧ _ ∧ _ ∧ _ from ⟨below_after H19.out.1 hb H19.out.1.size, H19.out.2.1.grown hb, blk_below H19.out.2.2.1 hb (Array.getElem?_eq_some_iff.1 H19.out.2.2.1).1, H19.out.2.2.2.1.grown hb, blk_below H19.out.2.2.2.2.1 hb (Array.getElem?_eq_some_iff.1 H19.out.2.2.2.2.1).1, H19.out.2.2.2.2.2.1.grown hb, blk_below H19.out.2.2.2.2.2.2.1 hb (Array.getElem?_eq_some_iff.1 H19.out.2.2.2.2.2.2.1).1, H19.out.2.2.2.2.2.2.2.1.grown hb, blk_below H19.out.2.2.2.2.2.2.2.2.1 hb (Array.getElem?_eq_some_iff.1 H19.out.2.2.2.2.2.2.2.2.1).1, H19.out.2.2.2.2.2.2.2.2.2.1.grown hb, blk_below H19.out.2.2.2.2.2.2.2.2.2.2.1 hb (Array.getElem?_eq_some_iff.1 H19.out.2.2.2.2.2.2.2.2.2.2.1).1, H19.out.2.2.2.2.2.2.2.2.2.2.2.1.grown hb, blk_below H19.out.2.2.2.2.2.2.2.2.2.2.2.2.1 hb (Array.getElem?_eq_some_iff.1 H19.out.2.2.2.2.2.2.2.2.2.2.2.2.1).1, H19.out.2.2.2.2.2.2.2.2.2.2.2.2.2.1.grown hb, blk_below H19.out.2.2.2.2.2.2.2.2.2.2.2.2.2.2.1 hb (Array.getElem?_eq_some_iff.1 H19.out.2.2.2.2.2.2.2.2.2.2.2.2.2.2.1).1, blk_below H19.out.2.2.2.2.2.2.2.2.2.2.2.2.2.2.2 hb (Array.getElem?_eq_some_iff.1 H19.out.2.2.2.2.2.2.2.2.2.2.2.2.2.2.2).1, hK⟩)
  clear H19
  clear hb
  dsimp only [vK, vN] at *
  clear hK
  go_upto_region 19 with fail
  have hb : Below W20.heap.size W20 ((W20.alloc (.cells #[.int .i64 k70, .int .i64 k71, .slice ka7 kn7 kc7] 28)).alloc (.cells #[.slice a7 n7 c7, .slice b7 m7 d7] 25)) := by go_grown
  have hk1 : ((W20.alloc (.cells #[.int .i64 k70, .int .i64 k71, .slice ka7 kn7 kc7] 28)).alloc (.cells #[.slice a7 n7 c7, .slice b7 m7 d7] 25)).heap[W20.heap.size]? = some (.cells #[.int .i64 k70, .int .i64 k71, .slice ka7 kn7 kc7] 28 (0, 0)) := blk_alloc (blk_new _ _) _
  have hk2 : ((W20.alloc (.cells #[.int .i64 k70, .int .i64 k71, .slice ka7 kn7 kc7] 28)).alloc (.cells #[.slice a7 n7 c7, .slice b7 m7 d7] 25)).heap[W20.heap.size + 1]? = some (.cells #[.slice a7 n7 c7, .slice b7 m7 d7] 25 (0, 0)) := by have := blk_new (W20.alloc (.cells #[.int .i64 k70, .int .i64 k71, .slice ka7 kn7 kc7] 28)) (.cells #[.slice a7 n7 c7, .slice b7 m7 d7] 25); rwa [World.size_alloc] at this
  have H21 := Lib.hid (show _ ∧ _ ∧ _ ∧ _ ∧ _ ∧ _ ∧ _ ∧ _ ∧ _ ∧ _ ∧ _ ∧ _ ∧ _ ∧ _ ∧ _ ∧ _ ∧ _ ∧ _ ∧ _ from ⟨below_after H20.out.1 hb H20.out.1.size, H20.out.2.1.grown hb, blk_below H20.out.2.2.1 hb (Array.getElem?_eq_some_iff.1 H20.out.2.2.1).1, H20.out.2.2.2.1.grown hb, blk_below H20.out.2.2.2.2.1 hb (Array.getElem?_eq_some_iff.1 H20.out.2.2.2.2.1).1, H20.out.2.2.2.2.2.1.grown hb, blk_below H20.out.2.2.2.2.2.2.1 hb (Array.getElem?_eq_some_iff.1 H20.out.2.2.2.2.2.2.1).1, H20.out.2.2.2.2.2.2.2.1.grown hb, blk_below H20.out.2.2.2.2.2.2.2.2.1 hb (Array.getElem?_eq_some_iff.1 H20.out.2.2.2.2.2.2.2.2.1).1, H20.out.2.2.2.2.2.2.2.2.2.1.grown hb, blk_below H20.out.2.2.2.2.2.2.2.2.2.2.1 hb (Array.getElem?_eq_some_iff.1 H20.out.2.2.2.2.2.2.2.2.2.2.1).1, H20.out.2.2.2.2.2.2.2.2.2.2.2.1.grown hb, blk_below H20.out.2.2.2.2.2.2.2.2.2.2.2.2.1 hb (Array.getElem?_eq_some_iff.1 H20.out.2.2.2.2.2.2.2.2.2.2.2.2.1).1, H20.out.2.2.2.2.2.2.2.2.2.2.2.2.2.1.grown hb, blk_below H20.out.2.2.2.2.2.2.2.2.2.2.2.2.2.2.1 hb (Array.getElem?_eq_some_iff.1 H20.out.2.2.2.2.2.2.2.2.2.2.2.2.2.2.1).1, blk_below H20.out.2.2.2.2.2.2.2.2.2.2.2.2.2.2.2.1 hb (Array.getElem?_eq_some_iff.1 H20.out.2.2.2.2.2.2.2.2.2.2.2.2.2.2.2.1).1, H20.out.2.2.2.2.2.2.2.2.2.2.2.2.2.2.2.2.grown hb, hk1, hk2⟩)
  clear H20
  clear hb hk1 hk2
  generalize hzW21 : ((W20.alloc (.cells #[.int .i64 k70, .int .i64 k71, .slice ka7 kn7 kc7] 28)).alloc (.cells #[.slice a7 n7 c7, .slice b7 m7 d7] 25)) = W21 at *
  clear hzW21
  have hab : a ≠ b := HE.out.2.2.2.2.2.2.1.1
  have hq0 : k70 = (delS (cutL A p false) m).1 := by obtain ⟨S, _, e⟩ := H21.out.2.2.2.2.2.2.2.2.2.2.2.2.2.2.2.2.1; rw [← e]; rfl
  have hq1 : k71 = (delS (cutL A p false) m).2.1 := by obtain ⟨S, _, e⟩ := H21.out.2.2.2.2.2.2.2.2.2.2.2.2.2.2.2.2.1; rw [← e]; rfl
  by_cases hpm : prQ m.1 m.2.1 = p
  · have dA : delS (cutL A p true) m = zP := del_in ((cutL_mem A p true _).2 (.inr ⟨rfl, hpm⟩))
    have dB : delS (cutL A p false) m = m := del_out (fun g => by rcases (cutL_mem A p false _).1 g with ⟨_, g⟩ | ⟨g, _⟩; exact g hpm; cases g)
    rw [dB] at hq0 hq1
    have hbt : (k70 = a ∧ k71 = b) ∨ (k70 = b ∧ k71 = a) := by rw [hq0, hq1]; exact prQ_inv HS.out.2.2.2.1 (by rw [hpm]; exact HE.out.2.2.2.2.2.2.2)
    have HD := Lib.hid (show _ ∧ _ from ⟨dA, dB⟩)
    clear dA dB hq0 hq1 hpm
    have t0 := blk_cell H21.out.2.2.2.2.2.2.2.2.2.2.2.2.2.2.2.2.2.1 0
    have t1 := blk_cell H21.out.2.2.2.2.2.2.2.2.2.2.2.2.2.2.2.2.2.1 1
    have t2 := blk_cell H21.out.2.2.2.2.2.2.2.2.2.2.2.2.2.2.2.2.2.1 2
    simp at t0 t1 t2
    rcases hbt with ⟨rfl, rfl⟩ | ⟨rfl, rfl⟩
    · have z1 : (k70 == k70) = true := by simp
      have z2 : (k71 == k71) = true := by simp
      go_upto_region 20 with fail
      clear t0 t1 t2
      have x00 := blk_cell H21.out.2.2.2.2.2.2.2.2.2.2.2.2.2.2.1 0
      have x01 := blk_cell H21.out.2.2.2.2.2.2.2.2.2.2.2.2.2.2.1 1
      have x02 := blk_cell H21.out.2.2.2.2.2.2.2.2.2.2.2.2.2.2.1 2
      simp at x00 x01 x02
      go_wp2_with fail
      clear x00 x01 x02
      refine (samePk_s (k60, k61, ka6, kn6, kc6) zK zP zP W21 (HD.out.1 ▸ H21.out.2.2.2.2.2.2.2.2.2.2.2.2.2.1) (PkV.zero _)).mono ?_
      rintro e Wb101 ⟨rfl, hb⟩
      rw [decide_eq_true rfl]
      have Hb101 := Lib.hid (show _ ∧ _ ∧ _ ∧ _ ∧ _ ∧ _ ∧ _ ∧ _ ∧ _ ∧ _ ∧ _ ∧ _ ∧ _ ∧ _ ∧ _ ∧ _ ∧ _ ∧ _ ∧ _ from ⟨below_after H21.out.1 hb H21.out.1.size, H21.out.2.1.grown hb, blk_below H21.out.2.2.1 hb (Array.getElem?_eq_some_iff.1 H21.out.2.2.1).1, H21.out.2.2.2.1.grown hb, blk_below H21.out.2.2.2.2.1 hb (Array.getElem?_eq_some_iff.1 H21.out.2.2.2.2.1).1, H21.out.2.2.2.2.2.1.grown hb, blk_below H21.out.2.2.2.2.2.2.1 hb (Array.getElem?_eq_some_iff.1 H21.out.2.2.2.2.2.2.1).1, H21.out.2.2.2.2.2.2.2.1.grown hb, blk_below H21.out.2.2.2.2.2.2.2.2.1 hb (Array.getElem?_eq_some_iff.1 H21.out.2.2.2.2.2.2.2.2.1).1, H21.out.2.2.2.2.2.2.2.2.2.1.grown hb, blk_below H21.out.2.2.2.2.2.2.2.2.2.2.1 hb (Array.getElem?_eq_some_iff.1 H21.out.2.2.2.2.2.2.2.2.2.2.1).1, H21.out.2.2.2.2.2.2.2.2.2.2.2.1.grown hb, blk_below H21.out.2.2.2.2.2.2.2.2.2.2.2.2.1 hb (Array.getElem?_eq_some_iff.1 H21.out.2.2.2.2.2.2.2.2.2.2.2.2.1).1, H21.out.2.2.2.2.2.2.2.2.2.2.2.2.2.1.grown hb, blk_below H21.out.2.2.2.2.2.2.2.2.2.2.2.2.2.2.1 hb (Array.getElem?_eq_some_iff.1 H21.out.2.2.2.2.2.2.2.2.2.2.2.2.2.2.1).1, blk_below H21.out.2.2.2.2.2.2.2.2.2.2.2.2.2.2.2.1 hb (Array.getElem?_eq_some_iff.1 H21.out.2.2.2.2.2.2.2.2.2.2.2.2.2.2.2.1).1, H21.out.2.2.2.2.2.2.2.2.2.2.2.2.2.2.2.2.1.grown hb, blk_below H21.out.2.2.2.2.2.2.2.2.2.2.2.2.2.2.2.2.2.1 hb (Array.getElem?_eq_some_iff.1 H21.out.2.2.2.2.2.2.2.2.2.2.2.2.2.2.2.2.2.1).1, blk_below H21.out.2.2.2.2.2.2.2.2.2.2.2.2.2.2.2.2.2.2 hb (Array.getElem?_eq_some_iff.1 H21.out.2.2.2.2.2.2.2.2.2.2.2.2.2.2.2.2.2.2).1⟩)
      clear H21
      clear hb
      go_wp2
      exact bodyPost_ret (v := .bool true) (by simp [results, Try.results7, go_sem]) rfl ⟨rfl, Hb101.out.1⟩
    · have z0 : (k70 == k71) = false := by simp; exact fun e => hab e.symm
      have z1 : (k70 == k70) = true := by simp
      have z2 : (k71 == k71) = true := by simp
      go_upto_region 20 with fail
      clear t0 t1 t2
      have x00 := blk_cell H21.out.2.2.2.2.2.2.2.2.2.2.2.2.2.2.1 0
      have x01 := blk_cell H21.out.2.2.2.2.2.2.2.2.2.2.2.2.2.2.1 1
      have x02 := blk_cell H21.out.2.2.2.2.2.2.2.2.2.2.2.2.2.2.1 2
      simp at x00 x01 x02
      go_wp2_with fail
      clear x00 x01 x02
      refine (samePk_s (k60, k61, ka6, kn6, kc6) zK zP zP W21 (HD.out.1 ▸ H21.out.2.2.2.2.2.2.2.2.2.2.2.2.2.1) (PkV.zero _)).mono ?_
      rintro e Wc101 ⟨rfl, hb⟩
      rw [decide_eq_true rfl]
      have Hc101 := Lib.hid (show _ ∧ _ ∧ _ ∧ _ ∧ _ ∧ _ ∧ _ ∧ _ ∧ _ ∧ _ ∧ _ ∧ _ ∧ _ ∧ _ ∧ _ ∧ _ ∧ _ ∧ _ ∧ _ from ⟨below_after H21.out.1 hb H21.out.1.size, H21.out.2.1.grown hb, blk_below H21.out.2.2.1 hb (Array.getElem?_eq_some_iff.1 H21.out.2.2.1).1, H21.out.2.2.2.1.grown hb, blk_below H21.out.2.2.2.2.1 hb (Array.getElem?_eq_some_iff.1 H21.out.2.2.2.2.1).1, H21.out.2.2.2.2.2.1.grown hb, blk_below H21.out.2.2.2.2.2.2.1 hb (Array.getElem?_eq_some_iff.1 H21.out.2.2.2.2.2.2.1).1, H21.out.2.2.2.2.2.2.2.1.grown hb, blk_below H21.out.2.2.2.2.2.2.2.2.1 hb (Array.getElem?_eq_some_iff.1 H21.out.2.2.2.2.2.2.2.2.1).1, H21.out.2.2.2.2.2.2.2.2.2.1.grown hb, blk_below H21.out.2.2.2.2.2.2.2.2.2.2.1 hb (Array.getElem?_eq_some_iff.1 H21.out.2.2.2.2.2.2.2.2.2.2.1).1, H21.out.2.2.2.2.2.2.2.2.2.2.2.1.grown hb, blk_below H21.out.2.2.2.2.2.2.2.2.2.2.2.2.1 hb (Array.getElem?_eq_some_iff.1 H21.out.2.2.2.2.2.2.2.2.2.2.2.2.1).1, H21.out.2.2.2.2.2.2.2.2.2.2.2.2.2.1.grown hb, blk_below H21.out.2.2.2.2.2.2.2.2.2.2.2.2.2.2.1 hb (Array.getElem?_eq_some_iff.1 H21.out.2.2.2.2.2.2.2.2.2.2.2.2.2.2.1).1, blk_below H21.out.2.2.2.2.2.2.2.2.2.2.2.2.2.2.2.1 hb (Array.getElem?_eq_some_iff.1 H21.out.2.2.2.2.2.2.2.2.2.2.2.2.2.2.2.1).1, H21.out.2.2.2.2.2.2.2.2.2.2.2.2.2.2.2.2.1.grown hb, blk_below H21.out.2.2.2.2.2.2.2.2.2.2.2.2.2.2.2.2.2.1 hb (Array.getElem?_eq_some_iff.1 H21.out.2.2.2.2.2.2.2.2.2.2.2.2.2.2.2.2.2.1).1, blk_below H21.out.2.2.2.2.2.2.2.2.2.2.2.2.2.2.2.2.2.2 hb (Array.getElem?_eq_some_iff.1 H21.out.2.2.2.2.2.2.2.2.2.2.2.2.2.2.2.2.2.2).1⟩)
      clear H21
      clear hb
      go_wp2
      exact bodyPost_ret (v := .bool true) (by simp [results, Try.results7, go_sem]) rfl ⟨rfl, Hc101.out.1⟩
  · have dA : delS (cutL A p true) m = delS (cutL A p false) m := del_same (by rw [cutL_mem, cutL_mem]; simp [hpm])
    have hbt : ¬ ((k70 = a ∧ k71 = b) ∨ (k70 = b ∧ k71 = a)) := by
      rw [hq0, hq1]
      rcases del_or (cutL A p false) m with e | e
      · rw [e]; rintro (⟨h1, h2⟩ | ⟨h1, h2⟩)
        · exact hab (h1.symm.trans h2)
        · exact hab (h2.symm.trans h1)
      · rw [e]; exact fun g => hpm (by rw [HE.out.2.2.2.2.2.2.2]; rcases g with ⟨h1, h2⟩ | ⟨h1, h2⟩ <;> rw [h1, h2]; unfold prQ; rw [Int.min_comm, Int.max_comm])
    have HD := Lib.hid dA
    clear dA hq0 hq1 hpm
    obtain ⟨P, hP⟩ : ∃ P, P = delS (cutL A p false) m := ⟨_, rfl⟩
    have HP := Lib.hid hP
    clear hP
    have t0 := blk_cell H21.out.2.2.2.2.2.2.2.2.2.2.2.2.2.2.2.2.2.1 0
    have t1 := blk_cell H21.out.2.2.2.2.2.2.2.2.2.2.2.2.2.2.2.2.2.1 1
    have t2 := blk_cell H21.out.2.2.2.2.2.2.2.2.2.2.2.2.2.2.2.2.2.1 2
    simp at t0 t1 t2
    by_cases c1 : k70 = a
    · have c2 : k71 ≠ b := fun e => hbt (.inl ⟨c1, e⟩)
      have c3 : k70 ≠ b := fun e => hab (c1.symm.trans e)
      have z1 : (k70 == a) = true := by simpa using c1
      have z2 : (k71 == b) = false := by simpa using c2
      have z3 : (k70 == b) = false := by simpa using c3
      clear c1 c2 c3 hbt
      go_upto_region 20 with fail
      clear t0 t1 t2
      have x00 := blk_cell H21.out.2.2.2.2.2.2.2.2.2.2.2.2.2.2.1 0
      have x01 := blk_cell H21.out.2.2.2.2.2.2.2.2.2.2.2.2.2.2.1 1
      have x02 := blk_cell H21.out.2.2.2.2.2.2.2.2.2.2.2.2.2.2.1 2
      simp at x00 x01 x02
      go_wp2_with fail
      clear x00 x01 x02
      refine (samePk_s (k60, k61, ka6, kn6, kc6) zK P zP W21 (HP.out ▸ HD.out ▸ H21.out.2.2.2.2.2.2.2.2.2.2.2.2.2.1) (PkV.zero _)).mono ?_
      rintro e We141 ⟨rfl, hb⟩
      generalize hbb : decide (P = zP) = bb
      have HBB := Lib.hid hbb
      clear hbb
      have He141 := Lib.hid (show _ ∧ _ ∧ _ ∧ _ ∧ _ ∧ _ ∧ _ ∧ _ ∧ _ ∧ _ ∧ _ ∧ _ ∧ _ ∧ _ ∧ _ ∧ _ ∧ _ ∧ _ ∧ _ from ⟨below_after H21.out.1 hb H21.out.1.size, H21.out.2.1.grown hb, blk_below H21.out.2.2.1 hb (Array.getElem?_eq_some_iff.1 H21.out.2.2.1).1, H21.out.2.2.2.1.grown hb, blk_below H21.out.2.2.2.2.1 hb (Array.getElem?_eq_some_iff.1 H21.out.2.2.2.2.1).1, H21.out.2.2.2.2.2.1.grown hb, blk_below H21.out.2.2.2.2.2.2.1 hb (Array.getElem?_eq_some_iff.1 H21.out.2.2.2.2.2.2.1).1, H21.out.2.2.2.2.2.2.2.1.grown hb, blk_below H21.out.2.2.2.2.2.2.2.2.1 hb (Array.getElem?_eq_some_iff.1 H21.out.2.2.2.2.2.2.2.2.1).1, H21.out.2.2.2.2.2.2.2.2.2.1.grown hb, blk_below H21.out.2.2.2.2.2.2.2.2.2.2.1 hb (Array.getElem?_eq_some_iff.1 H21.out.2.2.2.2.2.2.2.2.2.2.1).1, H21.out.2.2.2.2.2.2.2.2.2.2.2.1.grown hb, blk_below H21.out.2.2.2.2.2.2.2.2.2.2.2.2.1 hb (Array.getElem?_eq_some_iff.1 H21.out.2.2.2.2.2.2.2.2.2.2.2.2.1).1, H21.out.2.2.2.2.2.2.2.2.2.2.2.2.2.1.grown hb, blk_below H21.out.2.2.2.2.2.2.2.2.2.2.2.2.2.2.1 hb (Array.getElem?_eq_some_iff.1 H21.out.2.2.2.2.2.2.2.2.2.2.2.2.2.2.1).1, blk_below H21.out.2.2.2.2.2.2.2.2.2.2.2.2.2.2.2.1 hb (Array.getElem?_eq_some_iff.1 H21.out.2.2.2.2.2.2.2.2.2.2.2.2.2.2.2.1).1, H21.out.2.2.2.2.2.2.2.2.2.2.2.2.2.2.2.2.1.grown hb, blk_below H21.out.2.2.2.2.2.2.2.2.2.2.2.2.2.2.2.2.2.1 hb (Array.getElem?_eq_some_iff.1 H21.out.2.2.2.2.2.2.2.2.2.2.2.2.2.2.2.2.2.1).1, blk_below H21.out.2.2.2.2.2.2.2.2.2.2.2.2.2.2.2.2.2.2 hb (Array.getElem?_eq_some_iff.1 H21.out.2.2.2.2.2.2.2.2.2.2.2.2.2.2.2.2.2.2).1⟩)
      clear H21
      clear hb
      have x00 := blk_cell He141.out.2.2.2.2.2.2.2.2.2.2.2.2.2.2.2.2.2.1 0
      have x01 := blk_cell He141.out.2.2.2.2.2.2.2.2.2.2.2.2.2.2.2.2.2.1 1
      have x02 := blk_cell He141.out.2.2.2.2.2.2.2.2.2.2.2.2.2.2.2.2.2.1 2
      simp at x00 x01 x02
      go_wp2_with fail
      clear x00 x01 x02
      refine (samePk_s (k70, k71, ka7, kn7, kc7) zK P zP We141 (HP.out ▸ He141.out.2.2.2.2.2.2.2.2.2.2.2.2.2.2.2.2.1) (PkV.zero _)).mono ?_
      rintro e We142 ⟨rfl, hb⟩
      rw [HBB.out]
      have zbb : (bb == bb) = true := by simp
      have He142 := Lib.hid (show _ ∧ _ ∧ _ ∧ _ ∧ _ ∧ _ ∧ _ ∧ _ ∧ _ ∧ _ ∧ _ ∧ _ ∧ _ ∧ _ ∧ _ ∧ _ ∧ _ ∧ _ ∧ _ from ⟨below_after He141.out.1 hb He141.out.1.size, He141.out.2.1.grown hb, blk_below He141.out.2.2.1 hb (Array.getElem?_eq_some_iff.1 He141.out.2.2.1).1, He141.out.2.2.2.1.grown hb, blk_below He141.out.2.2.2.2.1 hb (Array.getElem?_eq_some_iff.1 He141.out.2.2.2.2.1).1, He141.out.2.2.2.2.2.1.grown hb, blk_below He141.out.2.2.2.2.2.2.1 hb (Array.getElem?_eq_some_iff.1 He141.out.2.2.2.2.2.2.1).1, He141.out.2.2.2.2.2.2.2.1.grown hb, blk_below He141.out.2.2.2.2.2.2.2.2.1 hb (Array.getElem?_eq_some_iff.1 He141.out.2.2.2.2.2.2.2.2.1).1, He141.out.2.2.2.2.2.2.2.2.2.1.grown hb, blk_below He141.out.2.2.2.2.2.2.2.2.2.2.1 hb (Array.getElem?_eq_some_iff.1 He141.out.2.2.2.2.2.2.2.2.2.2.1).1, He141.out.2.2.2.2.2.2.2.2.2.2.2.1.grown hb, blk_below He141.out.2.2.2.2.2.2.2.2.2.2.2.2.1 hb (Array.getElem?_eq_some_iff.1 He141.out.2.2.2.2.2.2.2.2.2.2.2.2.1).1, He141.out.2.2.2.2.2.2.2.2.2.2.2.2.2.1.grown hb, blk_below He141.out.2.2.2.2.2.2.2.2.2.2.2.2.2.2.1 hb (Array.getElem?_eq_some_iff.1 He141.out.2.2.2.2.2.2.2.2.2.2.2.2.2.2.1).1, blk_below He141.out.2.2.2.2.2.2.2.2.2.2.2.2.2.2.2.1 hb (Array.getElem?_eq_some_iff.1 He141.out.2.2.2.2.2.2.2.2.2.2.2.2.2.2.2.1).1, He141.out.2.2.2.2.2.2.2.2.2.2.2.2.2.2.2.2.1.grown hb, blk_below He141.out.2.2.2.2.2.2.2.2.2.2.2.2.2.2.2.2.2.1 hb (Array.getElem?_eq_some_iff.1 He141.out.2.2.2.2.2.2.2.2.2.2.2.2.2.2.2.2.2.1).1, blk_below He141.out.2.2.2.2.2.2.2.2.2.2.2.2.2.2.2.2.2.2 hb (Array.getElem?_eq_some_iff.1 He141.out.2.2.2.2.2.2.2.2.2.2.2.2.2.2.2.2.2.2).1⟩)
      clear He141
      clear hb
      have x00 := blk_cell He142.out.2.2.2.2.2.2.2.2.2.2.2.2.2.2.1 0
      have x01 := blk_cell He142.out.2.2.2.2.2.2.2.2.2.2.2.2.2.2.1 1
      have x02 := blk_cell He142.out.2.2.2.2.2.2.2.2.2.2.2.2.2.2.1 2
      simp at x00 x01 x02
      have x10 := blk_cell He142.out.2.2.2.2.2.2.2.2.2.2.2.2.2.2.2.2.2.1 0
      have x11 := blk_cell He142.out.2.2.2.2.2.2.2.2.2.2.2.2.2.2.2.2.2.1 1
      have x12 := blk_cell He142.out.2.2.2.2.2.2.2.2.2.2.2.2.2.2.2.2.2.1 2
      simp at x10 x11 x12
      go_wp2_with fail
      clear x00 x01 x02 x10 x11 x12
      refine (samePk_s (k60, k61, ka6, kn6, kc6) (k70, k71, ka7, kn7, kc7) P P We142 (HP.out ▸ HD.out ▸ He142.out.2.2.2.2.2.2.2.2.2.2.2.2.2.1) (HP.out ▸ He142.out.2.2.2.2.2.2.2.2.2.2.2.2.2.2.2.2.1)).mono ?_
      rintro e We143 ⟨rfl, hb⟩
      rw [decide_eq_true rfl]
      have He143 := Lib.hid (show _ ∧ _ ∧ _ ∧ _ ∧ _ ∧ _ ∧ _ ∧ _ ∧ _ ∧ _ ∧ _ ∧ _ ∧ _ ∧ _ ∧ _ ∧ _ ∧ _ ∧ _ ∧ _ from ⟨below_after He142.out.1 hb He142.out.1.size, He142.out.2.1.grown hb, blk_below He142.out.2.2.1 hb (Array.getElem?_eq_some_iff.1 He142.out.2.2.1).1, He142.out.2.2.2.1.grown hb, blk_below He142.out.2.2.2.2.1 hb (Array.getElem?_eq_some_iff.1 He142.out.2.2.2.2.1).1, He142.out.2.2.2.2.2.1.grown hb, blk_below He142.out.2.2.2.2.2.2.1 hb (Array.getElem?_eq_some_iff.1 He142.out.2.2.2.2.2.2.1).1, He142.out.2.2.2.2.2.2.2.1.grown hb, blk_below He142.out.2.2.2.2.2.2.2.2.1 hb (Array.getElem?_eq_some_iff.1 He142.out.2.2.2.2.2.2.2.2.1).1, He142.out.2.2.2.2.2.2.2.2.2.1.grown hb, blk_below He142.out.2.2.2.2.2.2.2.2.2.2.1 hb (Array.getElem?_eq_some_iff.1 He142.out.2.2.2.2.2.2.2.2.2.2.1).1, He142.out.2.2.2.2.2.2.2.2.2.2.2.1.grown hb, blk_below He142.out.2.2.2.2.2.2.2.2.2.2.2.2.1 hb (Array.getElem?_eq_some_iff.1 He142.out.2.2.2.2.2.2.2.2.2.2.2.2.1).1, He142.out.2.2.2.2.2.2.2.2.2.2.2.2.2.1.grown hb, blk_below He142.out.2.2.2.2.2.2.2.2.2.2.2.2.2.2.1 hb (Array.getElem?_eq_some_iff.1 He142.out.2.2.2.2.2.2.2.2.2.2.2.2.2.2.1).1, blk_below He142.out.2.2.2.2.2.2.2.2.2.2.2.2.2.2.2.1 hb (Array.getElem?_eq_some_iff.1 He142.out.2.2.2.2.2.2.2.2.2.2.2.2.2.2.2.1).1, He142.out.2.2.2.2.2.2.2.2.2.2.2.2.2.2.2.2.1.grown hb, blk_below He142.out.2.2.2.2.2.2.2.2.2.2.2.2.2.2.2.2.2.1 hb (Array.getElem?_eq_some_iff.1 He142.out.2.2.2.2.2.2.2.2.2.2.2.2.2.2.2.2.2.1).1, blk_below He142.out.2.2.2.2.2.2.2.2.2.2.2.2.2.2.2.2.2.2 hb (Array.getElem?_eq_some_iff.1 He142.out.2.2.2.2.2.2.2.2.2.2.2.2.2.2.2.2.2.2).1⟩)
      clear He142
      clear hb
      go_wp2
      exact bodyPost_ret (v := .bool true) (by simp [results, Try.results7, go_sem]) rfl ⟨rfl, He143.out.1⟩
    by_cases c3 : k70 = b
    · have c4 : k71 ≠ a := fun e => hbt (.inr ⟨c3, e⟩)
      have z1 : (k70 == a) = false := by simpa using c1
      have z3 : (k70 == b) = true := by simpa using c3
      have z4 : (k71 == a) = false := by simpa using c4
      clear c1 c3 c4 hbt
      go_upto_region 20 with fail
      clear t0 t1 t2
      have x00 := blk_cell H21.out.2.2.2.2.2.2.2.2.2.2.2.2.2.2.1 0
      have x01 := blk_cell H21.out.2.2.2.2.2.2.2.2.2.2.2.2.2.2.1 1
      have x02 := blk_cell H21.out.2.2.2.2.2.2.2.2.2.2.2.2.2.2.1 2
      simp at x00 x01 x02
      go_wp2_with fail
      clear x00 x01 x02
      refine (samePk_s (k60, k61, ka6, kn6, kc6) zK P zP W21 (HP.out ▸ HD.out ▸ H21.out.2.2.2.2.2.2.2.2.2.2.2.2.2.1) (PkV.zero _)).mono ?_
      rintro e Wg141 ⟨rfl, hb⟩
      generalize hbb : decide (P = zP) = bb
      have HBB := Lib.hid hbb
      clear hbb
      have Hg141 := Lib.hid (show _ ∧ _ ∧ _ ∧ _ ∧ _ ∧ _ ∧ _ ∧ _ ∧ _ ∧ _ ∧ _ ∧ _ ∧ _ ∧ _ ∧ _ ∧ _ ∧ _ ∧ _ ∧ _ from ⟨below_after H21.out.1 hb H21.out.1.size, H21.out.2.1.grown hb, blk_below H21.out.2.2.1 hb (Array.getElem?_eq_some_iff.1 H21.out.2.2.1).1, H21.out.2.2.2.1.grown hb, blk_below H21.out.2.2.2.2.1 hb (Array.getElem?_eq_some_iff.1 H21.out.2.2.2.2.1).1, H21.out.2.2.2.2.2.1.grown hb, blk_below H21.out.2.2.2.2.2.2.1 hb (Array.getElem?_eq_some_iff.1 H21.out.2.2.2.2.2.2.1).1, H21.out.2.2.2.2.2.2.2.1.grown hb, blk_below H21.out.2.2.2.2.2.2.2.2.1 hb (Array.getElem?_eq_some_iff.1 H21.out.2.2.2.2.2.2.2.2.1).1, H21.out.2.2.2.2.2.2.2.2.2.1.grown hb, blk_below H21.out.2.2.2.2.2.2.2.2.2.2.1 hb (Array.getElem?_eq_some_iff.1 H21.out.2.2.2.2.2.2.2.2.2.2.1).1, H21.out.2.2.2.2.2.2.2.2.2.2.2.1.grown hb, blk_below H21.out.2.2.2.2.2.2.2.2.2.2.2.2.1 hb (Array.getElem?_eq_some_iff.1 H21.out.2.2.2.2.2.2.2.2.2.2.2.2.1).1, H21.out.2.2.2.2.2.2.2.2.2.2.2.2.2.1.grown hb, blk_below H21.out.2.2.2.2.2.2.2.2.2.2.2.2.2.2.1 hb (Array.getElem?_eq_some_iff.1 H21.out.2.2.2.2.2.2.2.2.2.2.2.2.2.2.1).1, blk_below H21.out.2.2.2.2.2.2.2.2.2.2.2.2.2.2.2.1 hb (Array.getElem?_eq_some_iff.1 H21.out.2.2.2.2.2.2.2.2.2.2.2.2.2.2.2.1).1, H21.out.2.2.2.2.2.2.2.2.2.2.2.2.2.2.2.2.1.grown hb, blk_below H21.out.2.2.2.2.2.2.2.2.2.2.2.2.2.2.2.2.2.1 hb (Array.getElem?_eq_some_iff.1 H21.out.2.2.2.2.2.2.2.2.2.2.2.2.2.2.2.2.2.1).1, blk_below H21.out.2.2.2.2.2.2.2.2.2.2.2.2.2.2.2.2.2.2 hb (Array.getElem?_eq_some_iff.1 H21.out.2.2.2.2.2.2.2.2.2.2.2.2.2.2.2.2.2.2).1⟩)
      clear H21
      clear hb
      have x00 := blk_cell Hg141.out.2.2.2.2.2.2.2.2.2.2.2.2.2.2.2.2.2.1 0
      have x01 := blk_cell Hg141.out.2.2.2.2.2.2.2.2.2.2.2.2.2.2.2.2.2.1 1
      have x02 := blk_cell Hg141.out.2.2.2.2.2.2.2.2.2.2.2.2.2.2.2.2.2.1 2
      simp at x00 x01 x02
      go_wp2_with fail
      clear x00 x01 x02
      refine (samePk_s (k70, k71, ka7, kn7, kc7) zK P zP Wg141 (HP.out ▸ Hg141.out.2.2.2.2.2.2.2.2.2.2.2.2.2.2.2.2.1) (PkV.zero _)).mono ?_
      rintro e Wg142 ⟨rfl, hb⟩
      rw [HBB.out]
      have zbb : (bb == bb) = true := by simp
      have Hg142 := Lib.hid (show _ ∧ _ ∧ _ ∧ _ ∧ _ ∧ _ ∧ _ ∧ _ ∧ _ ∧ _ ∧ _ ∧ _ ∧ _ ∧ _ ∧ _ ∧ _ ∧ _ ∧ _ ∧ _ from ⟨below_after Hg141.out.1 hb Hg141.out.1.size, Hg141.out.2.1.grown hb, blk_below Hg141.out.2.2.1 hb (Array.getElem?_eq_some_iff.1 Hg141.out.2.2.1).1, Hg141.out.2.2.2.1.grown hb, blk_below Hg141.out.2.2.2.2.1 hb (Array.getElem?_eq_some_iff.1 Hg141.out.2.2.2.2.1).1, Hg141.out.2.2.2.2.2.1.grown hb, blk_below Hg141.out.2.2.2.2.2.2.1 hb (Array.getElem?_eq_some_iff.1 Hg141.out.2.2.2.2.2.2.1).1, Hg141.out.2.2.2.2.2.2.2.1.grown hb, blk_below Hg141.out.2.2.2.2.2.2.2.2.1 hb (Array.getElem?_eq_some_iff.1 Hg141.out.2.2.2.2.2.2.2.2.1).1, Hg141.out.2.2.2.2.2.2.2.2.2.1.grown hb, blk_below Hg141.out.2.2.2.2.2.2.2.2.2.2.1 hb (Array.getElem?_eq_some_iff.1 Hg141.out.2.2.2.2.2.2.2.2.2.2.1).1, Hg141.out.2.2.2.2.2.2.2.2.2.2.2.1.grown hb, blk_below Hg141.out.2.2.2.2.2.2.2.2.2.2.2.2.1 hb (Array.getElem?_eq_some_iff.1 Hg141.out.2.2.2.2.2.2.2.2.2.2.2.2.1).1, Hg141.out.2.2.2.2.2.2.2.2.2.2.2.2.2.1.grown hb, blk_below Hg141.out.2.2.2.2.2.2.2.2.2.2.2.2.2.2.1 hb (Array.getElem?_eq_some_iff.1 Hg141.out.2.2.2.2.2.2.2.2.2.2.2.2.2.2.1).1, blk_below Hg141.out.2.2.2.2.2.2.2.2.2.2.2.2.2.2.2.1 hb (Array.getElem?_eq_some_iff.1 Hg141.out.2.2.2.2.2.2.2.2.2.2.2.2.2.2.2.1).1, Hg141.out.2.2.2.2.2.2.2.2.2.2.2.2.2.2.2.2.1.grown hb, blk_below Hg141.out.2.2.2.2.2.2.2.2.2.2.2.2.2.2.2.2.2.1 hb (Array.getElem?_eq_some_iff.1 Hg141.out.2.2.2.2.2.2.2.2.2.2.2.2.2.2.2.2.2.1).1, blk_below Hg141.out.2.2.2.2.2.2.2.2.2.2.2.2.2.2.2.2.2.2 hb (Array.getElem?_eq_some_iff.1 Hg141.out.2.2.2.2.2.2.2.2.2.2.2.2.2.2.2.2.2.2).1⟩)
      clear Hg141
      clear hb
      have x00 := blk_cell Hg142.out.2.2.2.2.2.2.2.2.2.2.2.2.2.2.1 0
      have x01 := blk_cell Hg142.out.2.2.2.2.2.2.2.2.2.2.2.2.2.2.1 1
      have x02 := blk_cell Hg142.out.2.2.2.2.2.2.2.2.2.2.2.2.2.2.1 2
      simp at x00 x01 x02
      have x10 := blk_cell Hg142.out.2.2.2.2.2.2.2.2.2.2.2.2.2.2.2.2.2.1 0
      have x11 := blk_cell Hg142.out.2.2.2.2.2.2.2.2.2.2.2.2.2.2.2.2.2.1 1
      have x12 := blk_cell Hg142.out.2.2.2.2.2.2.2.2.2.2.2.2.2.2.2.2.2.1 2
      simp at x10 x11 x12
      go_wp2_with fail
      clear x00 x01 x02 x10 x11 x12
      refine (samePk_s (k60, k61, ka6, kn6, kc6) (k70, k71, ka7, kn7, kc7) P P Wg142 (HP.out ▸ HD.out ▸ Hg142.out.2.2.2.2.2.2.2.2.2.2.2.2.2.1) (HP.out ▸ Hg142.out.2.2.2.2.2.2.2.2.2.2.2.2.2.2.2.2.1)).mono ?_
      rintro e Wg143 ⟨rfl, hb⟩
      rw [decide_eq_true rfl]
      have Hg143 := Lib.hid (show _ ∧ _ ∧ _ ∧ _ ∧ _ ∧ _ ∧ _ ∧ _ ∧ _ ∧ _ ∧ _ ∧ _ ∧ _ ∧ _ ∧ _ ∧ _ ∧ _ ∧ _ ∧ _ from ⟨below_after Hg142.out.1 hb Hg142.out.1.size, Hg142.out.2.1.grown hb, blk_below Hg142.out.2.2.1 hb (Array.getElem?_eq_some_iff.1 Hg142.out.2.2.1).1, Hg142.out.2.2.2.1.grown hb, blk_below Hg142.out.2.2.2.2.1 hb (Array.getElem?_eq_some_iff.1 Hg142.out.2.2.2.2.1).1, Hg142.out.2.2.2.2.2.1.grown hb, blk_below Hg142.out.2.2.2.2.2.2.1 hb (Array.getElem?_eq_some_iff.1 Hg142.out.2.2.2.2.2.2.1).1, Hg142.out.2.2.2.2.2.2.2.1.grown hb, blk_below Hg142.out.2.2.2.2.2.2.2.2.1 hb (Array.getElem?_eq_some_iff.1 Hg142.out.2.2.2.2.2.2.2.2.1).1, Hg142.out.2.2.2.2.2.2.2.2.2.1.grown hb, blk_below Hg142.out.2.2.2.2.2.2.2.2.2.2.1 hb (Array.getElem?_eq_some_iff.1 Hg142.out.2.2.2.2.2.2.2.2.2.2.1).1, Hg142.out.2.2.2.2.2.2.2.2.2.2.2.1.grown hb, blk_below Hg142.out.2.2.2.2.2.2.2.2.2.2.2.2.1 hb (Array.getElem?_eq_some_iff.1 Hg142.out.2.2.2.2.2.2.2.2.2.2.2.2.1).1, Hg142.out.2.2.2.2.2.2.2.2.2.2.2.2.2.1.grown hb, blk_below Hg142.out.2.2.2.2.2.2.2.2.2.2.2.2.2.2.1 hb (Array.getElem?_eq_some_iff.1 Hg142.out.2.2.2.2.2.2.2.2.2.2.2.2.2.2.1).1, blk_below Hg142.out.2.2.2.2.2.2.2.2.2.2.2.2.2.2.2.1 hb (Array.getElem?_eq_some_iff.1 Hg142.out.2.2.2.2.2.2.2.2.2.2.2.2.2.2.2.1).1, Hg142.out.2.2.2.2.2.2.2.2.2.2.2.2.2.2.2.2.1.grown hb, blk_below Hg142.out.2.2.2.2.2.2.2.2.2.2.2.2.2.2.2.2.2.1 hb (Array.getElem?_eq_some_iff.1 Hg142.out.2.2.2.2.2.2.2.2.2.2.2.2.2.2.2.2.2.1).1, blk_below Hg142.out.2.2.2.2.2.2.2.2.2.2.2.2.2.2.2.2.2.2 hb (Array.getElem?_eq_some_iff.1 Hg142.out.2.2.2.2.2.2.2.2.2.2.2.2.2.2.2.2.2.2).1⟩)
      clear Hg142
      clear hb
      go_wp2
      exact bodyPost_ret (v := .bool true) (by simp [results, Try.results7, go_sem]) rfl ⟨rfl, Hg143.out.1⟩
    have z1 : (k70 == a) = false := by simpa using c1
    have z3 : (k70 == b) = false := by simpa using c3
    clear c1 c3 hbt
    go_upto_region 20 with fail
    clear t0 t1 t2
    have x00 := blk_cell H21.out.2.2.2.2.2.2.2.2.2.2.2.2.2.2.1 0
    have x01 := blk_cell H21.out.2.2.2.2.2.2.2.2.2.2.2.2.2.2.1 1
    have x02 := blk_cell H21.out.2.2.2.2.2.2.2.2.2.2.2.2.2.2.1 2
    simp at x00 x01 x02
    go_wp2_with fail
    clear x00 x01 x02
    refine (samePk_s (k60, k61, ka6, kn6, kc6) zK P zP W21 (HP.out ▸ HD.out ▸ H21.out.2.2.2.2.2.2.2.2.2.2.2.2.2.1) (PkV.zero _)).mono ?_
    rintro e Wi141 ⟨rfl, hb⟩
    generalize hbb : decide (P = zP) = bb
    have HBB := Lib.hid hbb
    clear hbb
    have Hi141 := Lib.hid (show _ ∧ _ ∧ _ ∧ _ ∧ _ ∧ _ ∧ _ ∧ _ ∧ _ ∧ _ ∧ _ ∧ _ ∧ _ ∧ _ ∧ _ ∧ _ ∧ _ ∧ _ ∧ _ from ⟨below_after H21.out.1 hb H21.out.1.size, H21.out.2.1.grown hb, blk_below H21.out.2.2.1 hb (Array.getElem?_eq_some_iff.1 H21.out.2.2.1).1, H21.out.2.2.2.1.grown hb, blk_below H21.out.2.2.2.2.1 hb (Array.getElem?_eq_some_iff.1 H21.out.2.2.2.2.1).1, H21.out.2.2.2.2.2.1.grown hb, blk_below H21.out.2.2.2.2.2.2.1 hb (Array.getElem?_eq_some_iff.1 H21.out.2.2.2.2.2.2.1).1, H21.out.2.2.2.2.2.2.2.1.grown hb, blk_below H21.out.2.2.2.2.2.2.2.2.1 hb (Array.getElem?_eq_some_iff.1 H21.out.2.2.2.2.2.2.2.2.1).1, H21.out.2.2.2.2.2.2.2.2.2.1.grown hb, blk_below H21.out.2.2.2.2.2.2.2.2.2.2.1 hb (Array.getElem?_eq_some_iff.1 H21.out.2.2.2.2.2.2.2.2.2.2.1).1, H21.out.2.2.2.2.2.2.2.2.2.2.2.1.grown hb, blk_below H21.out.2.2.2.2.2.2.2.2.2.2.2.2.1 hb (Array.getElem?_eq_some_iff.1 H21.out.2.2.2.2.2.2.2.2.2.2.2.2.1).1, H21.out.2.2.2.2.2.2.2.2.2.2.2.2.2.1.grown hb, blk_below H21.out.2.2.2.2.2.2.2.2.2.2.2.2.2.2.1 hb (Array.getElem?_eq_some_iff.1 H21.out.2.2.2.2.2.2.2.2.2.2.2.2.2.2.1).1, blk_below H21.out.2.2.2.2.2.2.2.2.2.2.2.2.2.2.2.1 hb (Array.getElem?_eq_some_iff.1 H21.out.2.2.2.2.2.2.2.2.2.2.2.2.2.2.2.1).1, H21.out.2.2.2.2.2.2.2.2.2.2.2.2.2.2.2.2.1.grown hb, blk_below H21.out.2.2.2.2.2.2.2.2.2.2.2.2.2.2.2.2.2.1 hb (Array.getElem?_eq_some_iff.1 H21.out.2.2.2.2.2.2.2.2.2.2.2.2.2.2.2.2.2.1).1, blk_below H21.out.2.2.2.2.2.2.2.2.2.2.2.2.2.2.2.2.2.2 hb (Array.getElem?_eq_some_iff.1 H21.out.2.2.2.2.2.2.2.2.2.2.2.2.2.2.2.2.2.2).1⟩)
    clear H21
    clear hb
    have x00 := blk_cell Hi141.out.2.2.2.2.2.2.2.2.2.2.2.2.2.2.2.2.2.1 0
    have x01 := blk_cell Hi141.out.2.2.2.2.2.2.2.2.2.2.2.2.2.2.2.2.2.1 1
    have x02 := blk_cell Hi141.out.2.2.2.2.2.2.2.2.2.2.2.2.2.2.2.2.2.1 2
    simp at x00 x01 x02
    go_wp2_with fail
    clear x00 x01 x02
    refine (samePk_s (k70, k71, ka7, kn7, kc7) zK P zP Wi141 (HP.out ▸ Hi141.out.2.2.2.2.2.2.2.2.2.2.2.2.2.2.2.2.1) (PkV.zero _)).mono ?_
    rintro e Wi142 ⟨rfl, hb⟩
    rw [HBB.out]
    have zbb : (bb == bb) = true := by simp
    have Hi142 := Lib.hid (show _ ∧ _ ∧ _ ∧ _ ∧ _ ∧ _ ∧ _ ∧ _ ∧ _ ∧ _ ∧ _ ∧ _ ∧ _ ∧ _ ∧ _ ∧ _ ∧ _ ∧ _ ∧ _ from ⟨below_after Hi141.out.1 hb Hi141.out.1.size, Hi141.out.2.1.grown hb, blk_below Hi141.out.2.2.1 hb (Array.getElem?_eq_some_iff.1 Hi141.out.2.2.1).1, Hi141.out.2.2.2.1.grown hb, blk_below Hi141.out.2.2.2.2.1 hb (Array.getElem?_eq_some_iff.1 Hi141.out.2.2.2.2.1).1, Hi141.out.2.2.2.2.2.1.grown hb, blk_below Hi141.out.2.2.2.2.2.2.1 hb (Array.getElem?_eq_some_iff.1 Hi141.out.2.2.2.2.2.2.1).1, Hi141.out.2.2.2.2.2.2.2.1.grown hb, blk_below Hi141.out.2.2.2.2.2.2.2.2.1 hb (Array.getElem?_eq_some_iff.1 Hi141.out.2.2.2.2.2.2.2.2.1).1, Hi141.out.2.2.2.2.2.2.2.2.2.1.grown hb, blk_below Hi141.out.2.2.2.2.2.2.2.2.2.2.1 hb (Array.getElem?_eq_some_iff.1 Hi141.out.2.2.2.2.2.2.2.2.2.2.1).1, Hi141.out.2.2.2.2.2.2.2.2.2.2.2.1.grown hb, blk_below Hi141.out.2.2.2.2.2.2.2.2.2.2.2.2.1 hb (Array.getElem?_eq_some_iff.1 Hi141.out.2.2.2.2.2.2.2.2.2.2.2.2.1).1, Hi141.out.2.2.2.2.2.2.2.2.2.2.2.2.2.1.grown hb, blk_below Hi141.out.2.2.2.2.2.2.2.2.2.2.2.2.2.2.1 hb (Array.getElem?_eq_some_iff.1 Hi141.out.2.2.2.2.2.2.2.2.2.2.2.2.2.2.1).1, blk_below Hi141.out.2.2.2.2.2.2.2.2.2.2.2.2.2.2.2.1 hb (Array.getElem?_eq_some_iff.1 Hi141.out.2.2.2.2.2.2.2.2.2.2.2.2.2.2.2.1).1, Hi141.out.2.2.2.2.2.2.2.2.2.2.2.2.2.2.2.2.1.grown hb, blk_below Hi141.out.2.2.2.2.2.2.2.2.2.2.2.2.2.2.2.2.2.1 hb (Array.getElem?_eq_some_iff.1 Hi141.out.2.2.2.2.2.2.2.2.2.2.2.2.2.2.2.2.2.1).1, blk_below Hi141.out.2.2.2.2.2.2.2.2.2.2.2.2.2.2.2.2.2.2 hb (Array.getElem?_eq_some_iff.1 Hi141.out.2.2.2.2.2.2.2.2.2.2.2.2.2.2.2.2.2.2).1⟩)
    clear Hi141
    clear hb
    have x00 := blk_cell Hi142.out.2.2.2.2.2.2.2.2.2.2.2.2.2.2.1 0
    have x01 := blk_cell Hi142.out.2.2.2.2.2.2.2.2.2.2.2.2.2.2.1 1
    have x02 := blk_cell Hi142.out.2.2.2.2.2.2.2.2.2.2.2.2.2.2.1 2
    simp at x00 x01 x02
    have x10 := blk_cell Hi142.out.2.2.2.2.2.2.2.2.2.2.2.2.2.2.2.2.2.1 0
    have x11 := blk_cell Hi142.out.2.2.2.2.2.2.2.2.2.2.2.2.2.2.2.2.2.1 1
    have x12 := blk_cell Hi142.out.2.2.2.2.2.2.2.2.2.2.2.2.2.2.2.2.2.1 2
    simp at x10 x11 x12
    go_wp2_with fail
    clear x00 x01 x02 x10 x11 x12
    refine (samePk_s (k60, k61, ka6, kn6, kc6) (k70, k71, ka7, kn7, kc7) P P Wi142 (HP.out ▸ HD.out ▸ Hi142.out.2.2.2.2.2.2.2.2.2.2.2.2.2.1) (HP.out ▸ Hi142.out.2.2.2.2.2.2.2.2.2.2.2.2.2.2.2.2.1)).mono ?_
    rintro e Wi143 ⟨rfl, hb⟩
    rw [decide_eq_true rfl]
    have Hi143 := Lib.hid (show _ ∧ _ ∧ _ ∧ _ ∧ _ ∧ _ ∧ _ ∧ _ ∧ _ ∧ _ ∧ _ ∧ _ ∧ _ ∧ _ ∧ _ ∧ _ ∧ _ ∧ _ ∧ _ from ⟨below_after Hi142.out.1 hb Hi142.out.1.size, Hi142.out.2.1.grown hb, blk_below Hi142.out.2.2.1 hb (Array.getElem?_eq_some_iff.1 Hi142.out.2.2.1).1, Hi142.out.2.2.2.1.grown hb, blk_below Hi142.out.2.2.2.2.1 hb (Array.getElem?_eq_some_iff.1 Hi142.out.2.2.2.2.1).1, Hi142.out.2.2.2.2.2.1.grown hb, blk_below Hi142.out.2.2.2.2.2.2.1 hb (Array.getElem?_eq_some_iff.1 Hi142.out.2.2.2.2.2.2.1).1, Hi142.out.2.2.2.2.2.2.2.1.grown hb, blk_below Hi142.out.2.2.2.2.2.2.2.2.1 hb (Array.getElem?_eq_some_iff.1 Hi142.out.2.2.2.2.2.2.2.2.1).1, Hi142.out.2.2.2.2.2.2.2.2.2.1.grown hb, blk_below Hi142.out.2.2.2.2.2.2.2.2.2.2.1 hb (Array.getElem?_eq_some_iff.1 Hi142.out.2.2.2.2.2.2.2.2.2.2.1).1, Hi142.out.2.2.2.2.2.2.2.2.2.2.2.1.grown hb, blk_below Hi142.out.2.2.2.2.2.2.2.2.2.2.2.2.1 hb (Array.getElem?_eq_some_iff.1 Hi142.out.2.2.2.2.2.2.2.2.2.2.2.2.1).1, Hi142.out.2.2.2.2.2.2.2.2.2.2.2.2.2.1.grown hb, blk_below Hi142.out.2.2.2.2.2.2.2.2.2.2.2.2.2.2.1 hb (Array.getElem?_eq_some_iff.1 Hi142.out.2.2.2.2.2.2.2.2.2.2.2.2.2.2.1).1, blk_below Hi142.out.2.2.2.2.2.2.2.2.2.2.2.2.2.2.2.1 hb (Array.getElem?_eq_some_iff.1 Hi142.out.2.2.2.2.2.2.2.2.2.2.2.2.2.2.2.1).1, Hi142.out.2.2.2.2.2.2.2.2.2.2.2.2.2.2.2.2.1.grown hb, blk_below Hi142.out.2.2.2.2.2.2.2.2.2.2.2.2.2.2.2.2.2.1 hb (Array.getElem?_eq_some_iff.1 Hi142.out.2.2.2.2.2.2.2.2.2.2.2.2.2.2.2.2.2.1).1, blk_below Hi142.out.2.2.2.2.2.2.2.2.2.2.2.2.2.2.2.2.2.2 hb (Array.getElem?_eq_some_iff.1 Hi142.out.2.2.2.2.2.2.2.2.2.2.2.2.2.2.2.2.2.2).1⟩)
    clear Hi142
    clear hb
    go_wp2
    exact bodyPost_ret (v := .bool true) (by simp [results, Try.results7, go_sem]) rfl ⟨rfl, Hi143.out.1⟩
end Go.Proofs.Ythgbkdaimnejeaa
