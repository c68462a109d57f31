/- NetworkMoveSpec (layer 6). -/
import Derived.Test.YthgbkdaimnejeaaNetFar2
namespace Go.Proofs.Ythgbkdaimnejeaa
open Go.ChangeShapes Go.WideShapes Go.ChangeAt Go.RowKit Go.Sort Go.Shelf

set_option maxRecDepth 100000 in
set_option maxHeartbeats 8000000 in
theorem move_walk (x : Sl × Sl) (L : List Pk) (A : List Qt) (at' a b : Int) (on : Bool) (w : World) (h : NetV w x L A) :
    Calls Try.prog 4 #[vN x, .int .i64 at', .int .i64 a, .int .i64 b, .bool on] w fun e w' => e = .returned (.bool true) ∧ Below w.heap.size w w' := by
  obtain ⟨⟨a0, n0, c0⟩, ⟨b0, m0, d0⟩⟩ := x
  dsimp only [vN] at *
  have H0 := Lib.hid (show _ ∧ _ from ⟨Below.refl w.heap.size w, h⟩)
  have HX0 := Lib.hid h
  clear h
  go_enter Try.func4, Try.ntmps4
  go_upto_region 1 with fail
  have hb := ((Below.refl w.heap.size w).alloc (Nat.le_refl _) (.cells #[.slice a0 n0 c0, .slice b0 m0 d0] 25))
  have H1 := Lib.hid (show _ ∧ _ ∧ _ from ⟨below_after H0.out.1 hb H0.out.1.size, H0.out.2.grown hb, blk_new w (.cells #[.slice a0 n0 c0, .slice b0 m0 d0] 25)⟩)
  clear H0
  clear hb
  generalize hzW1 : w.alloc (.cells #[.slice a0 n0 c0, .slice b0 m0 d0] 25) = W1 at *
  clear hzW1
  go_wp2_with fail
  refine (sane_any W1).mono ?_
  rintro e W2 ⟨rfl, hb⟩
  have hsW2 := hb.size
  have H2 := Lib.hid (show _ ∧ _ ∧ _ from ⟨below_after H1.out.1 hb H1.out.1.size, H1.out.2.1.grown hb, blk_below H1.out.2.2 hb (Array.getElem?_eq_some_iff.1 H1.out.2.2).1⟩)
  clear H1
  clear hb
  have x00 := blk_cell H2.out.2.2 0
  have x01 := blk_cell H2.out.2.2 1
  simp at x00 x01
  go_wp2_with fail
  clear x00 x01
  refine (few_s ((a0, n0, c0), (b0, m0, d0)) L A W2 H2.out.2.1).mono ?_
  rintro e W3 ⟨rfl, hb⟩
  have hsW3 := hb.size
  have H3 := Lib.hid (show _ ∧ _ ∧ _ from ⟨below_after H2.out.1 hb H2.out.1.size, H2.out.2.1.grown hb, blk_below H2.out.2.2 hb (Array.getElem?_eq_some_iff.1 H2.out.2.2).1⟩)
  clear H2
  clear hb
  by_cases hfew : L.length ≤ 40 ∧ A.length ≤ 40
  case neg =>
    rw [decide_eq_false hfew]
    clear hfew
    go_wp2
    exact bodyPost_ret (v := .bool true) (by simp [results, Try.results4, go_sem]) rfl ⟨rfl, H3.out.1⟩
  rw [decide_eq_true hfew]
  have hl40 := hfew.1
  clear hfew
  have HLN := Lib.hid (show n0 = L.length from H3.out.2.1.lenQ)
  have hn40 : n0 ≤ 40 := by rw [HLN.out]; exact hl40
  clear hl40
  obtain ⟨r, hr⟩ : ∃ r, r = cutS L A a b on := ⟨_, rfl⟩
  obtain ⟨rc, rL, rA⟩ := r
  have HR := Lib.hid hr.symm
  clear hr
  have x00 := blk_cell H3.out.2.2 0
  have x01 := blk_cell H3.out.2.2 1
  simp at x00 x01
  go_wp2_with fail
  clear x00 x01
  refine (cut_s ((a0, n0, c0), (b0, m0, d0)) L A a b on W3 H3.out.2.1).mono ?_
  rintro e W4 ⟨⟨⟨a1, n1, c1⟩, ⟨b1, m1, d1⟩⟩, rfl, hN, hb⟩
  rw [HR.out] at hN
  simp only [HR.out]
  have hsW4 := hb.size
  have H4 := Lib.hid (show _ ∧ _ ∧ _ ∧ _ from ⟨below_after H3.out.1 hb H3.out.1.size, H3.out.2.1.grown hb, blk_below H3.out.2.2 hb (Array.getElem?_eq_some_iff.1 H3.out.2.2).1, hN⟩)
  clear H3
  clear hb
  dsimp only [vN] at *
  clear hN
  go_upto_region 6 with fail
  have hb := ((Below.refl W4.heap.size W4).alloc (Nat.le_refl _) (.cells #[.slice a1 n1 c1, .slice b1 m1 d1] 25))
  have H5 := Lib.hid (show _ ∧ _ ∧ _ ∧ _ ∧ _ from ⟨below_after H4.out.1 hb H4.out.1.size, H4.out.2.1.grown hb, blk_below H4.out.2.2.1 hb (Array.getElem?_eq_some_iff.1 H4.out.2.2.1).1, H4.out.2.2.2.grown hb, blk_new W4 (.cells #[.slice a1 n1 c1, .slice b1 m1 d1] 25)⟩)
  clear H4
  clear hb
  generalize hzW5 : W4.alloc (.cells #[.slice a1 n1 c1, .slice b1 m1 d1] 25) = W5 at *
  clear hzW5
  have x00 := blk_cell H5.out.2.2.1 0
  have x01 := blk_cell H5.out.2.2.1 1
  simp at x00 x01
  go_wp2_with fail
  clear x00 x01
  refine (rcut_s ((a0, n0, c0), (b0, m0, d0)) L A a b on W5 H5.out.2.1).mono ?_
  rintro e W6 ⟨⟨⟨a2, n2, c2⟩, ⟨b2, m2, d2⟩⟩, rfl, hN, hb⟩
  rw [HR.out] at hN
  simp only [HR.out]
  have hsW6 := hb.size
  have H6 := Lib.hid (show _ ∧ _ ∧ _ ∧ _ ∧ _ ∧ _ from ⟨below_after H5.out.1 hb H5.out.1.size, H5.out.2.1.grown hb, blk_below H5.out.2.2.1 hb (Array.getElem?_eq_some_iff.1 H5.out.2.2.1).1, H5.out.2.2.2.1.grown hb, blk_below H5.out.2.2.2.2 hb (Array.getElem?_eq_some_iff.1 H5.out.2.2.2.2).1, hN⟩)
  clear H5
  clear hb
  dsimp only [vN] at *
  clear hN
  go_upto_region 7 with fail
  have hb := ((Below.refl W6.heap.size W6).alloc (Nat.le_refl _) (.cells #[.slice a2 n2 c2, .slice b2 m2 d2] 25))
  have H7 := Lib.hid (show _ ∧ _ ∧ _ ∧ _ ∧ _ ∧ _ ∧ _ from ⟨below_after H6.out.1 hb H6.out.1.size, H6.out.2.1.grown hb, blk_below H6.out.2.2.1 hb (Array.getElem?_eq_some_iff.1 H6.out.2.2.1).1, H6.out.2.2.2.1.grown hb, blk_below H6.out.2.2.2.2.1 hb (Array.getElem?_eq_some_iff.1 H6.out.2.2.2.2.1).1, H6.out.2.2.2.2.2.grown hb, blk_new W6 (.cells #[.slice a2 n2 c2, .slice b2 m2 d2] 25)⟩)
  clear H6
  clear hb
  generalize hzW7 : W6.alloc (.cells #[.slice a2 n2 c2, .slice b2 m2 d2] 25) = W7 at *
  clear hzW7
  have zr : (rc != rc) = false := by simp
  have x00 := blk_cell H7.out.2.2.2.2.1 0
  have x01 := blk_cell H7.out.2.2.2.2.1 1
  simp at x00 x01
  have x10 := blk_cell H7.out.2.2.2.2.2.2 0
  have x11 := blk_cell H7.out.2.2.2.2.2.2 1
  simp at x10 x11
  go_wp2_with fail
  clear x00 x01 x10 x11
  refine (same_t ((a1, n1, c1), (b1, m1, d1)) ((a2, n2, c2), (b2, m2, d2)) rL rA W7 H7.out.2.2.2.1 H7.out.2.2.2.2.2.1).mono ?_
  rintro e W8 ⟨rfl, hb⟩
  have hsW8 := hb.size
  have H8 := Lib.hid (show _ ∧ _ ∧ _ from ⟨below_after H7.out.1 hb H7.out.1.size, H7.out.2.1.grown hb, blk_below H7.out.2.2.1 hb (Array.getElem?_eq_some_iff.1 H7.out.2.2.1).1⟩)
  clear H7
  clear hb
  clear HR
  go_upto_region 10 with fail
  clear zr
  have hb : Below W8.heap.size W8 (W8.alloc (.cells #[.int .i64 at'] 3)) := by go_grown
  have hI := Ints.one W8 at'
  have HL := Lib.hid (show _ ∧ _ ∧ _ ∧ _ from ⟨below_after H8.out.1 hb H8.out.1.size, H8.out.2.1.grown hb, blk_below H8.out.2.2 hb (Array.getElem?_eq_some_iff.1 H8.out.2.2).1, hI.mono (show w.heap.size + 1 ≤ _ from (Array.getElem?_eq_some_iff.1 H8.out.2.2).1)⟩)
  clear H8
  clear hb hI
  generalize hz1 : W8.alloc (.cells #[.int .i64 at'] 3) = WL at *
  clear hz1
  generalize Value.slice (some ⟨W8.heap.size, 0, none⟩) 1 1 = vI at *
  go_wp2
  go_loopw [15, 16] (fun s i wr => ∃ j : Nat, j ≤ 3 ∧ j ≤ n0 ∧ i = .int .i64 j ∧ (∃ l : List Int, l.length ≤ j + 1 ∧ Ints wr (w.heap.size + 1) s l) ∧ wr.heap[w.heap.size]? = some (.cells #[.slice a0 n0 c0, .slice b0 m0 d0] 25 (0, 0)) ∧ Below w.heap.size w wr) (fun _ i _ => n0 - (intOf i).toNat)
  case atStart => exact ⟨0, by omega, by omega, rfl, ⟨_, by simp, HL.out.2.2.2⟩, HL.out.2.2.1, HL.out.1⟩
  case round =>
    clear HL
    obtain ⟨j, hj3, hjn, rfl, ⟨l, hll, hI⟩, hB, hlo⟩ := hrel
    have q0 := blk_cell hB 0; have q1 := blk_cell hB 1
    simp at q0 q1
    have hsw := (Array.getElem?_eq_some_iff.1 hB).1
    by_cases hc : j < n0 ∧ j < 3
    case pos =>
      have z1 : decide ((j : Int) < (n0 : Int)) = true := decide_eq_true (by omega)
      have z2 : decide ((j : Int) < 3) = true := decide_eq_true (by omega)
      have HX := Lib.hid (show _ ∧ _ ∧ _ ∧ _ from ⟨hI, hB, hlo, hll⟩)
      have hll' : l.length ≤ 1000 := by omega
      clear hI hB hlo hll
      go_wp2_with (at_builtin; go_loud (refine wpList_append_int rfl (.tmp 68) (.tmp 70) rfl (w.heap.size + 1) _ l (by rfl) (HX.out.1.alloc _) wr.heap.size (j : Int) (by rfl) 3 (0, 0) (blk_new _ _) (by omega) (by simp; omega) ?_; intro v2 w2 hO2 hB2 _; have HP := Lib.hid (show _ ∧ _ ∧ _ from ⟨hO2, blk_below (blk_alloc HX.out.2.1 _) hB2 (by omega), (HX.out.2.2.1.alloc (by omega) _).trans (hB2.mono (by omega))⟩); clear hO2 hB2))
      go_roundw
      case rel => exact ⟨j + 1, by omega, by omega, by go_num, ⟨l ++ [(j : Int)], by rw [List.length_append]; have := HX.out.2.2.2; simp; omega, HP.out.1⟩, HP.out.2⟩
      case measure => simp [intOf] <;> omega
    have HX := Lib.hid (show _ ∧ _ from ⟨hB, hlo⟩)
    obtain ⟨va, vb, vc, rfl, hR, -, -⟩ := hI.row
    generalize hln : l.length = ln at *
    have HLL := Lib.hid (show l.length = ln ∧ Row wr va vb 0 ln l from ⟨hln, hR⟩)
    clear hI hB hlo hR hln
    by_cases hjn2 : j < n0
    · have z1 : decide ((j : Int) < (n0 : Int)) = true := decide_eq_true (by omega)
      have z2 : decide ((j : Int) < 3) = false := decide_eq_false (by omega)
      go_wp2
      generalize wr = wr0 at *
      clear q0 q1
      go_loopw [74] (fun i wr => ∃ q : Nat, q ≤ ln ∧ i = .int .i64 q ∧ Row wr va vb 0 ln l ∧ wr.heap[w.heap.size]? = some (.cells #[.slice a0 n0 c0, .slice b0 m0 d0] 25 (0, 0)) ∧ Below w.heap.size w wr) (fun i _ => ln - (intOf i).toNat)
      case atStart => exact ⟨0, Nat.zero_le _, rfl, HLL.out.2, HX.out⟩
      case round =>
        obtain ⟨q, hq, rfl, hR, hB, hlo⟩ := hrel
        by_cases hql : q < ln
        case neg =>
          have z1 : decide ((q : Int) < (ln : Int)) = false := decide_eq_false (by omega)
          have HZ := Lib.hid hlo
          clear hR hB hlo
          go_wp2
          exact bodyPost_ret (v := .bool true) (by simp [results, Try.results4, go_sem]) rfl ⟨rfl, HZ.out⟩
        have z1 : decide ((q : Int) < (ln : Int)) = true := decide_eq_true (by omega)
        obtain rfl := hR.adr (Nat.lt_of_le_of_lt (Nat.zero_le q) hql)
        have hcq := hR.cel q hql
        rw [Nat.zero_add] at hcq
        have hsw := (Array.getElem?_eq_some_iff.1 hB).1
        have HB := Lib.hid (show _ ∧ _ ∧ _ ∧ _ from ⟨hlo, HX0.out.grown hlo, hB, hR⟩)
        clear hR hB hlo
        obtain ⟨y, hy⟩ : ∃ y, y = l.getD q 0 := ⟨_, rfl⟩
        rw [← hy] at hcq
        clear hy
        go_upto_region 17 with fail
        clear hcq z1
        obtain ⟨e, he⟩ : ∃ e, e = askS L A y := ⟨_, rfl⟩
        obtain ⟨pk', hpk⟩ : ∃ p, p = (if askS L A y = 0 then delS A (L.getD y.toNat zP) else zP) := ⟨_, rfl⟩
        obtain ⟨lr, hlr⟩ : ∃ r, r = loseS L A y := ⟨_, rfl⟩
        obtain ⟨lc, lL, lA⟩ := lr
        obtain ⟨rr, hrr⟩ : ∃ r, r = repS L A y := ⟨_, rfl⟩
        obtain ⟨rc, rL, rA⟩ := rr
        have HS := Lib.hid (show _ ∧ _ ∧ _ ∧ _ from ⟨he, hpk, hlr.symm, hrr.symm⟩)
        clear he hpk hlr hrr
        have ze : (e != e) = false := by simp
        have x00 := blk_cell HB.out.2.2.1 0
        have x01 := blk_cell HB.out.2.2.1 1
        simp at x00 x01
        go_wp2_with fail
        clear x00 x01
        refine (deliver_s ((a0, n0, c0), (b0, m0, d0)) L A y wr HB.out.2.1).mono ?_
        rintro e Wb1 ⟨⟨k10, k11, ka1, kn1, kc1⟩, ⟨⟨a1, n1, c1⟩, ⟨b1, m1, d1⟩⟩, rfl, hK, hN, hb⟩
        rw [← HS.out.2.1] at hK
        rw [HS.out.2.2.1] at hN
        simp only [← HS.out.1]
        have hsWb1 := hb.size
        have Hb1 := Lib.hid (show _ ∧ _ ∧ _ ∧ _ ∧ _ ∧ _ from ⟨below_after HB.out.1 hb HB.out.1.size, HB.out.2.1.grown hb, blk_below HB.out.2.2.1 hb (Array.getElem?_eq_some_iff.1 HB.out.2.2.1).1, HB.out.2.2.2.grown hb, hK, hN⟩)
        clear HB
        clear hb
        dsimp only [vK, vN] at *
        clear hK hN
        go_upto_region 18 with fail
        have hb : Below Wb1.heap.size Wb1 ((Wb1.alloc (.cells #[.int .i64 k10, .int .i64 k11, .slice ka1 kn1 kc1] 28)).alloc (.cells #[.slice a1 n1 c1, .slice b1 m1 d1] 25)) := by go_grown
        have hk1 : ((Wb1.alloc (.cells #[.int .i64 k10, .int .i64 k11, .slice ka1 kn1 kc1] 28)).alloc (.cells #[.slice a1 n1 c1, .slice b1 m1 d1] 25)).heap[Wb1.heap.size]? = some (.cells #[.int .i64 k10, .int .i64 k11, .slice ka1 kn1 kc1] 28 (0, 0)) := blk_alloc (blk_new _ _) _
        have hk2 : ((Wb1.alloc (.cells #[.int .i64 k10, .int .i64 k11, .slice ka1 kn1 kc1] 28)).alloc (.cells #[.slice a1 n1 c1, .slice b1 m1 d1] 25)).heap[Wb1.heap.size + 1]? = some (.cells #[.slice a1 n1 c1, .slice b1 m1 d1] 25 (0, 0)) := by have := blk_new (Wb1.alloc (.cells #[.int .i64 k10, .int .i64 k11, .slice ka1 kn1 kc1] 28)) (.cells #[.slice a1 n1 c1, .slice b1 m1 d1] 25); rwa [World.size_alloc] at this
        have Hb2 := Lib.hid (show _ ∧ _ ∧ _ ∧ _ ∧ _ ∧ _ ∧ _ ∧ _ from ⟨below_after Hb1.out.1 hb Hb1.out.1.size, Hb1.out.2.1.grown hb, blk_below Hb1.out.2.2.1 hb (Array.getElem?_eq_some_iff.1 Hb1.out.2.2.1).1, Hb1.out.2.2.2.1.grown hb, Hb1.out.2.2.2.2.1.grown hb, Hb1.out.2.2.2.2.2.grown hb, hk1, hk2⟩)
        clear Hb1
        have hsWb2 : Wb1.heap.size + 2 ≤ ((Wb1.alloc (.cells #[.int .i64 k10, .int .i64 k11, .slice ka1 kn1 kc1] 28)).alloc (.cells #[.slice a1 n1 c1, .slice b1 m1 d1] 25)).heap.size := by simp
        clear hb hk1 hk2
        generalize hzWb2 : ((Wb1.alloc (.cells #[.int .i64 k10, .int .i64 k11, .slice ka1 kn1 kc1] 28)).alloc (.cells #[.slice a1 n1 c1, .slice b1 m1 d1] 25)) = Wb2 at *
        clear hzWb2
        have x00 := blk_cell Hb2.out.2.2.1 0
        have x01 := blk_cell Hb2.out.2.2.1 1
        simp at x00 x01
        go_wp2_with fail
        clear x00 x01
        refine (rdeliver_s ((a0, n0, c0), (b0, m0, d0)) L A y Wb2 Hb2.out.2.1).mono ?_
        rintro e Wb3 ⟨⟨k20, k21, ka2, kn2, kc2⟩, ⟨⟨a2, n2, c2⟩, ⟨b2, m2, d2⟩⟩, rfl, hK, hN, hb⟩
        rw [← HS.out.2.1] at hK
        rw [HS.out.2.2.1] at hN
        simp only [← HS.out.1]
        have hsWb3 := hb.size
        have Hb3 := Lib.hid (show _ ∧ _ ∧ _ ∧ _ ∧ _ ∧ _ ∧ _ ∧ _ ∧ _ ∧ _ from ⟨below_after Hb2.out.1 hb Hb2.out.1.size, Hb2.out.2.1.grown hb, blk_below Hb2.out.2.2.1 hb (Array.getElem?_eq_some_iff.1 Hb2.out.2.2.1).1, Hb2.out.2.2.2.1.grown hb, Hb2.out.2.2.2.2.1.grown hb, Hb2.out.2.2.2.2.2.1.grown hb, blk_below Hb2.out.2.2.2.2.2.2.1 hb (Array.getElem?_eq_some_iff.1 Hb2.out.2.2.2.2.2.2.1).1, blk_below Hb2.out.2.2.2.2.2.2.2 hb (Array.getElem?_eq_some_iff.1 Hb2.out.2.2.2.2.2.2.2).1, hK, hN⟩)
        clear Hb2
        clear hb
        dsimp only [vK, vN] at *
        clear hK hN
        go_upto_region 19 with fail
        have hb : Below Wb3.heap.size Wb3 ((Wb3.alloc (.cells #[.int .i64 k20, .int .i64 k21, .slice ka2 kn2 kc2] 28)).alloc (.cells #[.slice a2 n2 c2, .slice b2 m2 d2] 25)) := by go_grown
        have hk1 : ((Wb3.alloc (.cells #[.int .i64 k20, .int .i64 k21, .slice ka2 kn2 kc2] 28)).alloc (.cells #[.slice a2 n2 c2, .slice b2 m2 d2] 25)).heap[Wb3.heap.size]? = some (.cells #[.int .i64 k20, .int .i64 k21, .slice ka2 kn2 kc2] 28 (0, 0)) := blk_alloc (blk_new _ _) _
        have hk2 : ((Wb3.alloc (.cells #[.int .i64 k20, .int .i64 k21, .slice ka2 kn2 kc2] 28)).alloc (.cells #[.slice a2 n2 c2, .slice b2 m2 d2] 25)).heap[Wb3.heap.size + 1]? = some (.cells #[.slice a2 n2 c2, .slice b2 m2 d2] 25 (0, 0)) := by have := blk_new (Wb3.alloc (.cells #[.int .i64 k20, .int .i64 k21, .slice ka2 kn2 kc2] 28)) (.cells #[.slice a2 n2 c2, .slice b2 m2 d2] 25); rwa [World.size_alloc] at this
        have Hb4 := Lib.hid (show _ ∧ _ ∧ _ ∧ _ ∧ _ ∧ _ ∧ _ ∧ _ ∧ _ ∧ _ ∧ _ ∧ _ from ⟨below_after Hb3.out.1 hb Hb3.out.1.size, Hb3.out.2.1.grown hb, blk_below Hb3.out.2.2.1 hb (Array.getElem?_eq_some_iff.1 Hb3.out.2.2.1).1, Hb3.out.2.2.2.1.grown hb, Hb3.out.2.2.2.2.1.grown hb, Hb3.out.2.2.2.2.2.1.grown hb, blk_below Hb3.out.2.2.2.2.2.2.1 hb (Array.getElem?_eq_some_iff.1 Hb3.out.2.2.2.2.2.2.1).1, blk_below Hb3.out.2.2.2.2.2.2.2.1 hb (Array.getElem?_eq_some_iff.1 Hb3.out.2.2.2.2.2.2.2.1).1, Hb3.out.2.2.2.2.2.2.2.2.1.grown hb, Hb3.out.2.2.2.2.2.2.2.2.2.grown hb, hk1, hk2⟩)
        clear Hb3
        have hsWb4 : Wb3.heap.size + 2 ≤ ((Wb3.alloc (.cells #[.int .i64 k20, .int .i64 k21, .slice ka2 kn2 kc2] 28)).alloc (.cells #[.slice a2 n2 c2, .slice b2 m2 d2] 25)).heap.size := by simp
        clear hb hk1 hk2
        generalize hzWb4 : ((Wb3.alloc (.cells #[.int .i64 k20, .int .i64 k21, .slice ka2 kn2 kc2] 28)).alloc (.cells #[.slice a2 n2 c2, .slice b2 m2 d2] 25)) = Wb4 at *
        clear hzWb4
        have x00 := blk_cell Hb4.out.2.2.2.2.2.2.1 0
        have x01 := blk_cell Hb4.out.2.2.2.2.2.2.1 1
        have x02 := blk_cell Hb4.out.2.2.2.2.2.2.1 2
        simp at x00 x01 x02
        have x10 := blk_cell Hb4.out.2.2.2.2.2.2.2.2.2.2.1 0
        have x11 := blk_cell Hb4.out.2.2.2.2.2.2.2.2.2.2.1 1
        have x12 := blk_cell Hb4.out.2.2.2.2.2.2.2.2.2.2.1 2
        simp at x10 x11 x12
        go_wp2_with fail
        clear x00 x01 x02 x10 x11 x12
        refine (samePk_s (k10, k11, ka1, kn1, kc1) (k20, k21, ka2, kn2, kc2) pk' pk' Wb4 Hb4.out.2.2.2.2.1 Hb4.out.2.2.2.2.2.2.2.2.1).mono ?_
        rintro e Wb5 ⟨rfl, hb⟩
        rw [decide_eq_true rfl]
        have hsWb5 := hb.size
        have Hb5 := Lib.hid (show _ ∧ _ ∧ _ ∧ _ ∧ _ ∧ _ ∧ _ ∧ _ from ⟨below_after Hb4.out.1 hb Hb4.out.1.size, Hb4.out.2.1.grown hb, blk_below Hb4.out.2.2.1 hb (Array.getElem?_eq_some_iff.1 Hb4.out.2.2.1).1, Hb4.out.2.2.2.1.grown hb, Hb4.out.2.2.2.2.2.1.grown hb, blk_below Hb4.out.2.2.2.2.2.2.2.1 hb (Array.getElem?_eq_some_iff.1 Hb4.out.2.2.2.2.2.2.2.1).1, Hb4.out.2.2.2.2.2.2.2.2.2.1.grown hb, blk_below Hb4.out.2.2.2.2.2.2.2.2.2.2.2 hb (Array.getElem?_eq_some_iff.1 Hb4.out.2.2.2.2.2.2.2.2.2.2.2).1⟩)
        clear Hb4
        clear hb
        have x00 := blk_cell Hb5.out.2.2.2.2.2.1 0
        have x01 := blk_cell Hb5.out.2.2.2.2.2.1 1
        simp at x00 x01
        have x10 := blk_cell Hb5.out.2.2.2.2.2.2.2 0
        have x11 := blk_cell Hb5.out.2.2.2.2.2.2.2 1
        simp at x10 x11
        go_wp2_with fail
        clear x00 x01 x10 x11
        refine (same_t ((a1, n1, c1), (b1, m1, d1)) ((a2, n2, c2), (b2, m2, d2)) lL lA Wb5 Hb5.out.2.2.2.2.1 Hb5.out.2.2.2.2.2.2.1).mono ?_
        rintro e Wb6 ⟨rfl, hb⟩
        have hsWb6 := hb.size
        have Hb6 := Lib.hid (show _ ∧ _ ∧ _ ∧ _ ∧ _ ∧ _ from ⟨below_after Hb5.out.1 hb Hb5.out.1.size, Hb5.out.2.1.grown hb, blk_below Hb5.out.2.2.1 hb (Array.getElem?_eq_some_iff.1 Hb5.out.2.2.1).1, Hb5.out.2.2.2.1.grown hb, blk_below Hb5.out.2.2.2.2.2.1 hb (Array.getElem?_eq_some_iff.1 Hb5.out.2.2.2.2.2.1).1, blk_below Hb5.out.2.2.2.2.2.2.2 hb (Array.getElem?_eq_some_iff.1 Hb5.out.2.2.2.2.2.2.2).1⟩)
        clear Hb5
        clear hb
        go_upto_region 21 with fail
        clear ze
        have x00 := blk_cell Hb6.out.2.2.1 0
        have x01 := blk_cell Hb6.out.2.2.1 1
        simp at x00 x01
        go_wp2_with fail
        clear x00 x01
        refine (lose_s ((a0, n0, c0), (b0, m0, d0)) L A y Wb6 Hb6.out.2.1).mono ?_
        rintro e Wb7 ⟨⟨⟨a3, n3, c3⟩, ⟨b3, m3, d3⟩⟩, rfl, hN, hb⟩
        rw [HS.out.2.2.1] at hN
        simp only [HS.out.2.2.1]
        have hsWb7 := hb.size
        have Hb7 := Lib.hid (show _ ∧ _ ∧ _ ∧ _ ∧ _ ∧ _ ∧ _ from ⟨below_after Hb6.out.1 hb Hb6.out.1.size, Hb6.out.2.1.grown hb, blk_below Hb6.out.2.2.1 hb (Array.getElem?_eq_some_iff.1 Hb6.out.2.2.1).1, Hb6.out.2.2.2.1.grown hb, blk_below Hb6.out.2.2.2.2.1 hb (Array.getElem?_eq_some_iff.1 Hb6.out.2.2.2.2.1).1, blk_below Hb6.out.2.2.2.2.2 hb (Array.getElem?_eq_some_iff.1 Hb6.out.2.2.2.2.2).1, hN⟩)
        clear Hb6
        clear hb
        dsimp only [vN] at *
        clear hN
        have g0 := blk_cell Hb7.out.2.2.2.2.1 0
        have gf0 := blk_free Hb7.out.2.2.2.2.1 0
        have g1 := blk_cell Hb7.out.2.2.2.2.1 1
        have gf1 := blk_free Hb7.out.2.2.2.2.1 1
        simp at g0 g1
        go_upto_region 22 with fail
        clear g0 g1 gf0 gf1
        have hsWb8 : Wb7.heap.size ≤ ((Wb7.setCell ⟨Wb1.heap.size + 1, 0, none⟩ (.slice a3 n3 c3)).setCell ⟨Wb1.heap.size + 1, 1, none⟩ (.slice b3 m3 d3)).heap.size := by rw [World.size_setCell, World.size_setCell]; exact Nat.le_refl _
        have Hb8 := Lib.hid (show _ ∧ _ ∧ _ ∧ _ ∧ _ ∧ _ ∧ _ from ⟨boxQ_below (b := Wb1.heap.size + 1) (u0 := .slice a3 n3 c3) (u1 := .slice b3 m3 d3) (by omega) Hb7.out.1, Hb7.out.2.1.box (a' := a3) (b' := n3) (c' := c3) (d' := b3) (e' := m3) (f' := d3) Hb7.out.2.2.2.2.1, boxQ_far (b := Wb1.heap.size + 1) (u0 := .slice a3 n3 c3) (u1 := .slice b3 m3 d3) (q := w.heap.size) (by omega) Hb7.out.2.2.1, Hb7.out.2.2.2.1.box (a' := a3) (b' := n3) (c' := c3) (d' := b3) (e' := m3) (f' := d3) Hb7.out.2.2.2.2.1, boxQ_set (u0 := .slice a3 n3 c3) (u1 := .slice b3 m3 d3) Hb7.out.2.2.2.2.1, boxQ_far (b := Wb1.heap.size + 1) (u0 := .slice a3 n3 c3) (u1 := .slice b3 m3 d3) (q := Wb3.heap.size + 1) (by omega) Hb7.out.2.2.2.2.2.1, Hb7.out.2.2.2.2.2.2.box (a' := a3) (b' := n3) (c' := c3) (d' := b3) (e' := m3) (f' := d3) Hb7.out.2.2.2.2.1⟩)
        clear Hb7
        generalize hzWb8 : ((Wb7.setCell ⟨Wb1.heap.size + 1, 0, none⟩ (.slice a3 n3 c3)).setCell ⟨Wb1.heap.size + 1, 1, none⟩ (.slice b3 m3 d3)) = Wb8 at *
        clear hzWb8
        have x00 := blk_cell Hb8.out.2.2.1 0
        have x01 := blk_cell Hb8.out.2.2.1 1
        simp at x00 x01
        go_wp2_with fail
        clear x00 x01
        refine (rlose_s ((a0, n0, c0), (b0, m0, d0)) L A y Wb8 Hb8.out.2.1).mono ?_
        rintro e Wb9 ⟨⟨⟨a4, n4, c4⟩, ⟨b4, m4, d4⟩⟩, rfl, hN, hb⟩
        rw [HS.out.2.2.1] at hN
        simp only [HS.out.2.2.1]
        have hsWb9 := hb.size
        have Hb9 := Lib.hid (show _ ∧ _ ∧ _ ∧ _ ∧ _ ∧ _ ∧ _ ∧ _ from ⟨below_after Hb8.out.1 hb Hb8.out.1.size, Hb8.out.2.1.grown hb, blk_below Hb8.out.2.2.1 hb (Array.getElem?_eq_some_iff.1 Hb8.out.2.2.1).1, Hb8.out.2.2.2.1.grown hb, blk_below Hb8.out.2.2.2.2.1 hb (Array.getElem?_eq_some_iff.1 Hb8.out.2.2.2.2.1).1, blk_below Hb8.out.2.2.2.2.2.1 hb (Array.getElem?_eq_some_iff.1 Hb8.out.2.2.2.2.2.1).1, Hb8.out.2.2.2.2.2.2.grown hb, hN⟩)
        clear Hb8
        clear hb
        dsimp only [vN] at *
        clear hN
        have g0 := blk_cell Hb9.out.2.2.2.2.2.1 0
        have gf0 := blk_free Hb9.out.2.2.2.2.2.1 0
        have g1 := blk_cell Hb9.out.2.2.2.2.2.1 1
        have gf1 := blk_free Hb9.out.2.2.2.2.2.1 1
        simp at g0 g1
        go_upto_region 23 with fail
        clear g0 g1 gf0 gf1
        have hsWb10 : Wb9.heap.size ≤ ((Wb9.setCell ⟨Wb3.heap.size + 1, 0, none⟩ (.slice a4 n4 c4)).setCell ⟨Wb3.heap.size + 1, 1, none⟩ (.slice b4 m4 d4)).heap.size := by rw [World.size_setCell, World.size_setCell]; exact Nat.le_refl _
        have Hb10 := Lib.hid (show _ ∧ _ ∧ _ ∧ _ ∧ _ ∧ _ ∧ _ ∧ _ from ⟨boxQ_below (b := Wb3.heap.size + 1) (u0 := .slice a4 n4 c4) (u1 := .slice b4 m4 d4) (by omega) Hb9.out.1, Hb9.out.2.1.box (a' := a4) (b' := n4) (c' := c4) (d' := b4) (e' := m4) (f' := d4) Hb9.out.2.2.2.2.2.1, boxQ_far (b := Wb3.heap.size + 1) (u0 := .slice a4 n4 c4) (u1 := .slice b4 m4 d4) (q := w.heap.size) (by omega) Hb9.out.2.2.1, Hb9.out.2.2.2.1.box (a' := a4) (b' := n4) (c' := c4) (d' := b4) (e' := m4) (f' := d4) Hb9.out.2.2.2.2.2.1, boxQ_far (b := Wb3.heap.size + 1) (u0 := .slice a4 n4 c4) (u1 := .slice b4 m4 d4) (q := Wb1.heap.size + 1) (by omega) Hb9.out.2.2.2.2.1, boxQ_set (u0 := .slice a4 n4 c4) (u1 := .slice b4 m4 d4) Hb9.out.2.2.2.2.2.1, Hb9.out.2.2.2.2.2.2.1.box (a' := a4) (b' := n4) (c' := c4) (d' := b4) (e' := m4) (f' := d4) Hb9.out.2.2.2.2.2.1, Hb9.out.2.2.2.2.2.2.2.box (a' := a4) (b' := n4) (c' := c4) (d' := b4) (e' := m4) (f' := d4) Hb9.out.2.2.2.2.2.1⟩)
        clear Hb9
        generalize hzWb10 : ((Wb9.setCell ⟨Wb3.heap.size + 1, 0, none⟩ (.slice a4 n4 c4)).setCell ⟨Wb3.heap.size + 1, 1, none⟩ (.slice b4 m4 d4)) = Wb10 at *
        clear hzWb10
        have zl : (lc != lc) = false := by simp
        have x00 := blk_cell Hb10.out.2.2.2.2.1 0
        have x01 := blk_cell Hb10.out.2.2.2.2.1 1
        simp at x00 x01
        have x10 := blk_cell Hb10.out.2.2.2.2.2.1 0
        have x11 := blk_cell Hb10.out.2.2.2.2.2.1 1
        simp at x10 x11
        go_wp2_with fail
        clear x00 x01 x10 x11
        refine (same_t ((a3, n3, c3), (b3, m3, d3)) ((a4, n4, c4), (b4, m4, d4)) lL lA Wb10 Hb10.out.2.2.2.2.2.2.1 Hb10.out.2.2.2.2.2.2.2).mono ?_
        rintro e Wb11 ⟨rfl, hb⟩
        have hsWb11 := hb.size
        have Hb11 := Lib.hid (show _ ∧ _ ∧ _ ∧ _ ∧ _ ∧ _ from ⟨below_after Hb10.out.1 hb Hb10.out.1.size, Hb10.out.2.1.grown hb, blk_below Hb10.out.2.2.1 hb (Array.getElem?_eq_some_iff.1 Hb10.out.2.2.1).1, Hb10.out.2.2.2.1.grown hb, blk_below Hb10.out.2.2.2.2.1 hb (Array.getElem?_eq_some_iff.1 Hb10.out.2.2.2.2.1).1, blk_below Hb10.out.2.2.2.2.2.1 hb (Array.getElem?_eq_some_iff.1 Hb10.out.2.2.2.2.2.1).1⟩)
        clear Hb10
        clear hb
        go_upto_region 25 with fail
        clear zl
        have x00 := blk_cell Hb11.out.2.2.1 0
        have x01 := blk_cell Hb11.out.2.2.1 1
        simp at x00 x01
        go_wp2_with fail
        clear x00 x01
        refine (repeat_s ((a0, n0, c0), (b0, m0, d0)) L A y Wb11 Hb11.out.2.1).mono ?_
        rintro e Wb12 ⟨⟨⟨a5, n5, c5⟩, ⟨b5, m5, d5⟩⟩, rfl, hN, hb⟩
        rw [HS.out.2.2.2] at hN
        simp only [HS.out.2.2.2]
        have hsWb12 := hb.size
        have Hb12 := Lib.hid (show _ ∧ _ ∧ _ ∧ _ ∧ _ ∧ _ ∧ _ from ⟨below_after Hb11.out.1 hb Hb11.out.1.size, Hb11.out.2.1.grown hb, blk_below Hb11.out.2.2.1 hb (Array.getElem?_eq_some_iff.1 Hb11.out.2.2.1).1, Hb11.out.2.2.2.1.grown hb, blk_below Hb11.out.2.2.2.2.1 hb (Array.getElem?_eq_some_iff.1 Hb11.out.2.2.2.2.1).1, blk_below Hb11.out.2.2.2.2.2 hb (Array.getElem?_eq_some_iff.1 Hb11.out.2.2.2.2.2).1, hN⟩)
        clear Hb11
        clear hb
        dsimp only [vN] at *
        clear hN
        have g0 := blk_cell Hb12.out.2.2.2.2.1 0
        have gf0 := blk_free Hb12.out.2.2.2.2.1 0
        have g1 := blk_cell Hb12.out.2.2.2.2.1 1
        have gf1 := blk_free Hb12.out.2.2.2.2.1 1
        simp at g0 g1
        go_upto_region 26 with fail
        clear g0 g1 gf0 gf1
        have hsWb13 : Wb12.heap.size ≤ ((Wb12.setCell ⟨Wb1.heap.size + 1, 0, none⟩ (.slice a5 n5 c5)).setCell ⟨Wb1.heap.size + 1, 1, none⟩ (.slice b5 m5 d5)).heap.size := by rw [World.size_setCell, World.size_setCell]; exact Nat.le_refl _
        have Hb13 := Lib.hid (show _ ∧ _ ∧ _ ∧ _ ∧ _ ∧ _ ∧ _ from ⟨boxQ_below (b := Wb1.heap.size + 1) (u0 := .slice a5 n5 c5) (u1 := .slice b5 m5 d5) (by omega) Hb12.out.1, Hb12.out.2.1.box (a' := a5) (b' := n5) (c' := c5) (d' := b5) (e' := m5) (f' := d5) Hb12.out.2.2.2.2.1, boxQ_far (b := Wb1.heap.size + 1) (u0 := .slice a5 n5 c5) (u1 := .slice b5 m5 d5) (q := w.heap.size) (by omega) Hb12.out.2.2.1, Hb12.out.2.2.2.1.box (a' := a5) (b' := n5) (c' := c5) (d' := b5) (e' := m5) (f' := d5) Hb12.out.2.2.2.2.1, boxQ_set (u0 := .slice a5 n5 c5) (u1 := .slice b5 m5 d5) Hb12.out.2.2.2.2.1, boxQ_far (b := Wb1.heap.size + 1) (u0 := .slice a5 n5 c5) (u1 := .slice b5 m5 d5) (q := Wb3.heap.size + 1) (by omega) Hb12.out.2.2.2.2.2.1, Hb12.out.2.2.2.2.2.2.box (a' := a5) (b' := n5) (c' := c5) (d' := b5) (e' := m5) (f' := d5) Hb12.out.2.2.2.2.1⟩)
        clear Hb12
        generalize hzWb13 : ((Wb12.setCell ⟨Wb1.heap.size + 1, 0, none⟩ (.slice a5 n5 c5)).setCell ⟨Wb1.heap.size + 1, 1, none⟩ (.slice b5 m5 d5)) = Wb13 at *
        clear hzWb13
        have x00 := blk_cell Hb13.out.2.2.1 0
        have x01 := blk_cell Hb13.out.2.2.1 1
        simp at x00 x01
        go_wp2_with fail
        clear x00 x01
        refine (rrepeat_s ((a0, n0, c0), (b0, m0, d0)) L A y Wb13 Hb13.out.2.1).mono ?_
        rintro e Wb14 ⟨⟨⟨a6, n6, c6⟩, ⟨b6, m6, d6⟩⟩, rfl, hN, hb⟩
        rw [HS.out.2.2.2] at hN
        simp only [HS.out.2.2.2]
        have hsWb14 := hb.size
        have Hb14 := Lib.hid (show _ ∧ _ ∧ _ ∧ _ ∧ _ ∧ _ ∧ _ ∧ _ from ⟨below_after Hb13.out.1 hb Hb13.out.1.size, Hb13.out.2.1.grown hb, blk_below Hb13.out.2.2.1 hb (Array.getElem?_eq_some_iff.1 Hb13.out.2.2.1).1, Hb13.out.2.2.2.1.grown hb, blk_below Hb13.out.2.2.2.2.1 hb (Array.getElem?_eq_some_iff.1 Hb13.out.2.2.2.2.1).1, blk_below Hb13.out.2.2.2.2.2.1 hb (Array.getElem?_eq_some_iff.1 Hb13.out.2.2.2.2.2.1).1, Hb13.out.2.2.2.2.2.2.grown hb, hN⟩)
        clear Hb13
        clear hb
        dsimp only [vN] at *
        clear hN
        have g0 := blk_cell Hb14.out.2.2.2.2.2.1 0
        have gf0 := blk_free Hb14.out.2.2.2.2.2.1 0
        have g1 := blk_cell Hb14.out.2.2.2.2.2.1 1
        have gf1 := blk_free Hb14.out.2.2.2.2.2.1 1
        simp at g0 g1
        go_upto_region 27 with fail
        clear g0 g1 gf0 gf1
        have hsWb15 : Wb14.heap.size ≤ ((Wb14.setCell ⟨Wb3.heap.size + 1, 0, none⟩ (.slice a6 n6 c6)).setCell ⟨Wb3.heap.size + 1, 1, none⟩ (.slice b6 m6 d6)).heap.size := by rw [World.size_setCell, World.size_setCell]; exact Nat.le_refl _
        have Hb15 := Lib.hid (show _ ∧ _ ∧ _ ∧ _ ∧ _ ∧ _ ∧ _ ∧ _ from ⟨boxQ_below (b := Wb3.heap.size + 1) (u0 := .slice a6 n6 c6) (u1 := .slice b6 m6 d6) (by omega) Hb14.out.1, Hb14.out.2.1.box (a' := a6) (b' := n6) (c' := c6) (d' := b6) (e' := m6) (f' := d6) Hb14.out.2.2.2.2.2.1, boxQ_far (b := Wb3.heap.size + 1) (u0 := .slice a6 n6 c6) (u1 := .slice b6 m6 d6) (q := w.heap.size) (by omega) Hb14.out.2.2.1, Hb14.out.2.2.2.1.box (a' := a6) (b' := n6) (c' := c6) (d' := b6) (e' := m6) (f' := d6) Hb14.out.2.2.2.2.2.1, boxQ_far (b := Wb3.heap.size + 1) (u0 := .slice a6 n6 c6) (u1 := .slice b6 m6 d6) (q := Wb1.heap.size + 1) (by omega) Hb14.out.2.2.2.2.1, boxQ_set (u0 := .slice a6 n6 c6) (u1 := .slice b6 m6 d6) Hb14.out.2.2.2.2.2.1, Hb14.out.2.2.2.2.2.2.1.box (a' := a6) (b' := n6) (c' := c6) (d' := b6) (e' := m6) (f' := d6) Hb14.out.2.2.2.2.2.1, Hb14.out.2.2.2.2.2.2.2.box (a' := a6) (b' := n6) (c' := c6) (d' := b6) (e' := m6) (f' := d6) Hb14.out.2.2.2.2.2.1⟩)
        clear Hb14
        generalize hzWb15 : ((Wb14.setCell ⟨Wb3.heap.size + 1, 0, none⟩ (.slice a6 n6 c6)).setCell ⟨Wb3.heap.size + 1, 1, none⟩ (.slice b6 m6 d6)) = Wb15 at *
        clear hzWb15
        have zr : (rc != rc) = false := by simp
        have x00 := blk_cell Hb15.out.2.2.2.2.1 0
        have x01 := blk_cell Hb15.out.2.2.2.2.1 1
        simp at x00 x01
        have x10 := blk_cell Hb15.out.2.2.2.2.2.1 0
        have x11 := blk_cell Hb15.out.2.2.2.2.2.1 1
        simp at x10 x11
        go_wp2_with fail
        clear x00 x01 x10 x11
        refine (same_t ((a5, n5, c5), (b5, m5, d5)) ((a6, n6, c6), (b6, m6, d6)) rL rA Wb15 Hb15.out.2.2.2.2.2.2.1 Hb15.out.2.2.2.2.2.2.2).mono ?_
        rintro e Wb16 ⟨rfl, hb⟩
        have hsWb16 := hb.size
        have Hb16 := Lib.hid (show _ ∧ _ ∧ _ ∧ _ ∧ _ ∧ _ from ⟨below_after Hb15.out.1 hb Hb15.out.1.size, Hb15.out.2.1.grown hb, blk_below Hb15.out.2.2.1 hb (Array.getElem?_eq_some_iff.1 Hb15.out.2.2.1).1, Hb15.out.2.2.2.1.grown hb, blk_below Hb15.out.2.2.2.2.1 hb (Array.getElem?_eq_some_iff.1 Hb15.out.2.2.2.2.1).1, blk_below Hb15.out.2.2.2.2.2.1 hb (Array.getElem?_eq_some_iff.1 Hb15.out.2.2.2.2.2.1).1⟩)
        clear Hb15
        clear hb
        go_wp2
        go_roundw
        case rel => exact ⟨q + 1, by omega, by go_num, Hb16.out.2.2.2.1, Hb16.out.2.2.1, Hb16.out.1⟩
        case measure => simp [intOf] <;> omega
    · have z1 : decide ((j : Int) < (n0 : Int)) = false := decide_eq_false (by omega)
      go_wp2
      generalize wr = wr0 at *
      clear q0 q1
      go_loopw [74] (fun i wr => ∃ q : Nat, q ≤ ln ∧ i = .int .i64 q ∧ Row wr va vb 0 ln l ∧ wr.heap[w.heap.size]? = some (.cells #[.slice a0 n0 c0, .slice b0 m0 d0] 25 (0, 0)) ∧ Below w.heap.size w wr) (fun i _ => ln - (intOf i).toNat)
      case atStart => exact ⟨0, Nat.zero_le _, rfl, HLL.out.2, HX.out⟩
      case round =>
        obtain ⟨q, hq, rfl, hR, hB, hlo⟩ := hrel
        by_cases hql : q < ln
        case neg =>
          have z1 : decide ((q : Int) < (ln : Int)) = false := decide_eq_false (by omega)
          have HZ := Lib.hid hlo
          clear hR hB hlo
          go_wp2
          exact bodyPost_ret (v := .bool true) (by simp [results, Try.results4, go_sem]) rfl ⟨rfl, HZ.out⟩
        have z1 : decide ((q : Int) < (ln : Int)) = true := decide_eq_true (by omega)
        obtain rfl := hR.adr (Nat.lt_of_le_of_lt (Nat.zero_le q) hql)
        have hcq := hR.cel q hql
        rw [Nat.zero_add] at hcq
        have hsw := (Array.getElem?_eq_some_iff.1 hB).1
        have HB := Lib.hid (show _ ∧ _ ∧ _ ∧ _ from ⟨hlo, HX0.out.grown hlo, hB, hR⟩)
        clear hR hB hlo
        obtain ⟨y, hy⟩ : ∃ y, y = l.getD q 0 := ⟨_, rfl⟩
        rw [← hy] at hcq
        clear hy
        go_upto_region 17 with fail
        clear hcq z1
        obtain ⟨e, he⟩ : ∃ e, e = askS L A y := ⟨_, rfl⟩
        obtain ⟨pk', hpk⟩ : ∃ p, p = (if askS L A y = 0 then delS A (L.getD y.toNat zP) else zP) := ⟨_, rfl⟩
        obtain ⟨lr, hlr⟩ : ∃ r, r = loseS L A y := ⟨_, rfl⟩
        obtain ⟨lc, lL, lA⟩ := lr
        obtain ⟨rr, hrr⟩ : ∃ r, r = repS L A y := ⟨_, rfl⟩
        obtain ⟨rc, rL, rA⟩ := rr
        have HS := Lib.hid (show _ ∧ _ ∧ _ ∧ _ from ⟨he, hpk, hlr.symm, hrr.symm⟩)
        clear he hpk hlr hrr
        have ze : (e != e) = false := by simp
        have x00 := blk_cell HB.out.2.2.1 0
        have x01 := blk_cell HB.out.2.2.1 1
        simp at x00 x01
        go_wp2_with fail
        clear x00 x01
        refine (deliver_s ((a0, n0, c0), (b0, m0, d0)) L A y wr HB.out.2.1).mono ?_
        rintro e Wb1 ⟨⟨k10, k11, ka1, kn1, kc1⟩, ⟨⟨a1, n1, c1⟩, ⟨b1, m1, d1⟩⟩, rfl, hK, hN, hb⟩
        rw [← HS.out.2.1] at hK
        rw [HS.out.2.2.1] at hN
        simp only [← HS.out.1]
        have hsWb1 := hb.size
        have Hb1 := Lib.hid (show _ ∧ _ ∧ _ ∧ _ ∧ _ ∧ _ from ⟨below_after HB.out.1 hb HB.out.1.size, HB.out.2.1.grown hb, blk_below HB.out.2.2.1 hb (Array.getElem?_eq_some_iff.1 HB.out.2.2.1).1, HB.out.2.2.2.grown hb, hK, hN⟩)
        clear HB
        clear hb
        dsimp only [vK, vN] at *
        clear hK hN
        go_upto_region 18 with fail
        have hb : Below Wb1.heap.size Wb1 ((Wb1.alloc (.cells #[.int .i64 k10, .int .i64 k11, .slice ka1 kn1 kc1] 28)).alloc (.cells #[.slice a1 n1 c1, .slice b1 m1 d1] 25)) := by go_grown
        have hk1 : ((Wb1.alloc (.cells #[.int .i64 k10, .int .i64 k11, .slice ka1 kn1 kc1] 28)).alloc (.cells #[.slice a1 n1 c1, .slice b1 m1 d1] 25)).heap[Wb1.heap.size]? = some (.cells #[.int .i64 k10, .int .i64 k11, .slice ka1 kn1 kc1] 28 (0, 0)) := blk_alloc (blk_new _ _) _
        have hk2 : ((Wb1.alloc (.cells #[.int .i64 k10, .int .i64 k11, .slice ka1 kn1 kc1] 28)).alloc (.cells #[.slice a1 n1 c1, .slice b1 m1 d1] 25)).heap[Wb1.heap.size + 1]? = some (.cells #[.slice a1 n1 c1, .slice b1 m1 d1] 25 (0, 0)) := by have := blk_new (Wb1.alloc (.cells #[.int .i64 k10, .int .i64 k11, .slice ka1 kn1 kc1] 28)) (.cells #[.slice a1 n1 c1, .slice b1 m1 d1] 25); rwa [World.size_alloc] at this
        have Hb2 := Lib.hid (show _ ∧ _ ∧ _ ∧ _ ∧ _ ∧ _ ∧ _ ∧ _ from ⟨below_after Hb1.out.1 hb Hb1.out.1.size, Hb1.out.2.1.grown hb, blk_below Hb1.out.2.2.1 hb (Array.getElem?_eq_some_iff.1 Hb1.out.2.2.1).1, Hb1.out.2.2.2.1.grown hb, Hb1.out.2.2.2.2.1.grown hb, Hb1.out.2.2.2.2.2.grown hb, hk1, hk2⟩)
        clear Hb1
        have hsWb2 : Wb1.heap.size + 2 ≤ ((Wb1.alloc (.cells #[.int .i64 k10, .int .i64 k11, .slice ka1 kn1 kc1] 28)).alloc (.cells #[.slice a1 n1 c1, .slice b1 m1 d1] 25)).heap.size := by simp
        clear hb hk1 hk2
        generalize hzWb2 : ((Wb1.alloc (.cells #[.int .i64 k10, .int .i64 k11, .slice ka1 kn1 kc1] 28)).alloc (.cells #[.slice a1 n1 c1, .slice b1 m1 d1] 25)) = Wb2 at *
        clear hzWb2
        have x00 := blk_cell Hb2.out.2.2.1 0
        have x01 := blk_cell Hb2.out.2.2.1 1
        simp at x00 x01
        go_wp2_with fail
        clear x00 x01
        refine (rdeliver_s ((a0, n0, c0), (b0, m0, d0)) L A y Wb2 Hb2.out.2.1).mono ?_
        rintro e Wb3 ⟨⟨k20, k21, ka2, kn2, kc2⟩, ⟨⟨a2, n2, c2⟩, ⟨b2, m2, d2⟩⟩, rfl, hK, hN, hb⟩
        rw [← HS.out.2.1] at hK
        rw [HS.out.2.2.1] at hN
        simp only [← HS.out.1]
        have hsWb3 := hb.size
        have Hb3 := Lib.hid (show _ ∧ _ ∧ _ ∧ _ ∧ _ ∧ _ ∧ _ ∧ _ ∧ _ ∧ _ from ⟨below_after Hb2.out.1 hb Hb2.out.1.size, Hb2.out.2.1.grown hb, blk_below Hb2.out.2.2.1 hb (Array.getElem?_eq_some_iff.1 Hb2.out.2.2.1).1, Hb2.out.2.2.2.1.grown hb, Hb2.out.2.2.2.2.1.grown hb, Hb2.out.2.2.2.2.2.1.grown hb, blk_below Hb2.out.2.2.2.2.2.2.1 hb (Array.getElem?_eq_some_iff.1 Hb2.out.2.2.2.2.2.2.1).1, blk_below Hb2.out.2.2.2.2.2.2.2 hb (Array.getElem?_eq_some_iff.1 Hb2.out.2.2.2.2.2.2.2).1, hK, hN⟩)
        clear Hb2
        clear hb
        dsimp only [vK, vN] at *
        clear hK hN
        go_upto_region 19 with fail
        have hb : Below Wb3.heap.size Wb3 ((Wb3.alloc (.cells #[.int .i64 k20, .int .i64 k21, .slice ka2 kn2 kc2] 28)).alloc (.cells #[.slice a2 n2 c2, .slice b2 m2 d2] 25)) := by go_grown
        have hk1 : ((Wb3.alloc (.cells #[.int .i64 k20, .int .i64 k21, .slice ka2 kn2 kc2] 28)).alloc (.cells #[.slice a2 n2 c2, .slice b2 m2 d2] 25)).heap[Wb3.heap.size]? = some (.cells #[.int .i64 k20, .int .i64 k21, .slice ka2 kn2 kc2] 28 (0, 0)) := blk_alloc (blk_new _ _) _
        have hk2 : ((Wb3.alloc (.cells #[.int .i64 k20, .int .i64 k21, .slice ka2 kn2 kc2] 28)).alloc (.cells #[.slice a2 n2 c2, .slice b2 m2 d2] 25)).heap[Wb3.heap.size + 1]? = some (.cells #[.slice a2 n2 c2, .slice b2 m2 d2] 25 (0, 0)) := by have := blk_new (Wb3.alloc (.cells #[.int .i64 k20, .int .i64 k21, .slice ka2 kn2 kc2] 28)) (.cells #[.slice a2 n2 c2, .slice b2 m2 d2] 25); rwa [World.size_alloc] at this
        have Hb4 := Lib.hid (show _ ∧ _ ∧ _ ∧ _ ∧ _ ∧ _ ∧ _ ∧ _ ∧ _ ∧ _ ∧ _ ∧ _ from ⟨below_after Hb3.out.1 hb Hb3.out.1.size, Hb3.out.2.1.grown hb, blk_below Hb3.out.2.2.1 hb (Array.getElem?_eq_some_iff.1 Hb3.out.2.2.1).1, Hb3.out.2.2.2.1.grown hb, Hb3.out.2.2.2.2.1.grown hb, Hb3.out.2.2.2.2.2.1.grown hb, blk_below Hb3.out.2.2.2.2.2.2.1 hb (Array.getElem?_eq_some_iff.1 Hb3.out.2.2.2.2.2.2.1).1, blk_below Hb3.out.2.2.2.2.2.2.2.1 hb (Array.getElem?_eq_some_iff.1 Hb3.out.2.2.2.2.2.2.2.1).1, Hb3.out.2.2.2.2.2.2.2.2.1.grown hb, Hb3.out.2.2.2.2.2.2.2.2.2.grown hb, hk1, hk2⟩)
        clear Hb3
        have hsWb4 : Wb3.heap.size + 2 ≤ ((Wb3.alloc (.cells #[.int .i64 k20, .int .i64 k21, .slice ka2 kn2 kc2] 28)).alloc (.cells #[.slice a2 n2 c2, .slice b2 m2 d2] 25)).heap.size := by simp
        clear hb hk1 hk2
        generalize hzWb4 : ((Wb3.alloc (.cells #[.int .i64 k20, .int .i64 k21, .slice ka2 kn2 kc2] 28)).alloc (.cells #[.slice a2 n2 c2, .slice b2 m2 d2] 25)) = Wb4 at *
        clear hzWb4
        have x00 := blk_cell Hb4.out.2.2.2.2.2.2.1 0
        have x01 := blk_cell Hb4.out.2.2.2.2.2.2.1 1
        have x02 := blk_cell Hb4.out.2.2.2.2.2.2.1 2
        simp at x00 x01 x02
        have x10 := blk_cell Hb4.out.2.2.2.2.2.2.2.2.2.2.1 0
        have x11 := blk_cell Hb4.out.2.2.2.2.2.2.2.2.2.2.1 1
        have x12 := blk_cell Hb4.out.2.2.2.2.2.2.2.2.2.2.1 2
        simp at x10 x11 x12
        go_wp2_with fail
        clear x00 x01 x02 x10 x11 x12
        refine (samePk_s (k10, k11, ka1, kn1, kc1) (k20, k21, ka2, kn2, kc2) pk' pk' Wb4 Hb4.out.2.2.2.2.1 Hb4.out.2.2.2.2.2.2.2.2.1).mono ?_
        rintro e Wb5 ⟨rfl, hb⟩
        rw [decide_eq_true rfl]
        have hsWb5 := hb.size
        have Hb5 := Lib.hid (show _ ∧ _ ∧ _ ∧ _ ∧ _ ∧ _ ∧ _ ∧ _ from ⟨below_after Hb4.out.1 hb Hb4.out.1.size, Hb4.out.2.1.grown hb, blk_below Hb4.out.2.2.1 hb (Array.getElem?_eq_some_iff.1 Hb4.out.2.2.1).1, Hb4.out.2.2.2.1.grown hb, Hb4.out.2.2.2.2.2.1.grown hb, blk_below Hb4.out.2.2.2.2.2.2.2.1 hb (Array.getElem?_eq_some_iff.1 Hb4.out.2.2.2.2.2.2.2.1).1, Hb4.out.2.2.2.2.2.2.2.2.2.1.grown hb, blk_below Hb4.out.2.2.2.2.2.2.2.2.2.2.2 hb (Array.getElem?_eq_some_iff.1 Hb4.out.2.2.2.2.2.2.2.2.2.2.2).1⟩)
        clear Hb4
        clear hb
        have x00 := blk_cell Hb5.out.2.2.2.2.2.1 0
        have x01 := blk_cell Hb5.out.2.2.2.2.2.1 1
        simp at x00 x01
        have x10 := blk_cell Hb5.out.2.2.2.2.2.2.2 0
        have x11 := blk_cell Hb5.out.2.2.2.2.2.2.2 1
        simp at x10 x11
        go_wp2_with fail
        clear x00 x01 x10 x11
        refine (same_t ((a1, n1, c1), (b1, m1, d1)) ((a2, n2, c2), (b2, m2, d2)) lL lA Wb5 Hb5.out.2.2.2.2.1 Hb5.out.2.2.2.2.2.2.1).mono ?_
        rintro e Wb6 ⟨rfl, hb⟩
        have hsWb6 := hb.size
        have Hb6 := Lib.hid (show _ ∧ _ ∧ _ ∧ _ ∧ _ ∧ _ from ⟨below_after Hb5.out.1 hb Hb5.out.1.size, Hb5.out.2.1.grown hb, blk_below Hb5.out.2.2.1 hb (Array.getElem?_eq_some_iff.1 Hb5.out.2.2.1).1, Hb5.out.2.2.2.1.grown hb, blk_below Hb5.out.2.2.2.2.2.1 hb (Array.getElem?_eq_some_iff.1 Hb5.out.2.2.2.2.2.1).1, blk_below Hb5.out.2.2.2.2.2.2.2 hb (Array.getElem?_eq_some_iff.1 Hb5.out.2.2.2.2.2.2.2).1⟩)
        clear Hb5
        clear hb
        go_upto_region 21 with fail
        clear ze
        have x00 := blk_cell Hb6.out.2.2.1 0
        have x01 := blk_cell Hb6.out.2.2.1 1
        simp at x00 x01
        go_wp2_with fail
        clear x00 x01
        refine (lose_s ((a0, n0, c0), (b0, m0, d0)) L A y Wb6 Hb6.out.2.1).mono ?_
        rintro e Wb7 ⟨⟨⟨a3, n3, c3⟩, ⟨b3, m3, d3⟩⟩, rfl, hN, hb⟩
        rw [HS.out.2.2.1] at hN
        simp only [HS.out.2.2.1]
        have hsWb7 := hb.size
        have Hb7 := Lib.hid (show _ ∧ _ ∧ _ ∧ _ ∧ _ ∧ _ ∧ _ from ⟨below_after Hb6.out.1 hb Hb6.out.1.size, Hb6.out.2.1.grown hb, blk_below Hb6.out.2.2.1 hb (Array.getElem?_eq_some_iff.1 Hb6.out.2.2.1).1, Hb6.out.2.2.2.1.grown hb, blk_below Hb6.out.2.2.2.2.1 hb (Array.getElem?_eq_some_iff.1 Hb6.out.2.2.2.2.1).1, blk_below Hb6.out.2.2.2.2.2 hb (Array.getElem?_eq_some_iff.1 Hb6.out.2.2.2.2.2).1, hN⟩)
        clear Hb6
        clear hb
        dsimp only [vN] at *
        clear hN
        have g0 := blk_cell Hb7.out.2.2.2.2.1 0
        have gf0 := blk_free Hb7.out.2.2.2.2.1 0
        have g1 := blk_cell Hb7.out.2.2.2.2.1 1
        have gf1 := blk_free Hb7.out.2.2.2.2.1 1
        simp at g0 g1
        go_upto_region 22 with fail
        clear g0 g1 gf0 gf1
        have hsWb8 : Wb7.heap.size ≤ ((Wb7.setCell ⟨Wb1.heap.size + 1, 0, none⟩ (.slice a3 n3 c3)).setCell ⟨Wb1.heap.size + 1, 1, none⟩ (.slice b3 m3 d3)).heap.size := by rw [World.size_setCell, World.size_setCell]; exact Nat.le_refl _
        have Hb8 := Lib.hid (show _ ∧ _ ∧ _ ∧ _ ∧ _ ∧ _ ∧ _ from ⟨boxQ_below (b := Wb1.heap.size + 1) (u0 := .slice a3 n3 c3) (u1 := .slice b3 m3 d3) (by omega) Hb7.out.1, Hb7.out.2.1.box (a' := a3) (b' := n3) (c' := c3) (d' := b3) (e' := m3) (f' := d3) Hb7.out.2.2.2.2.1, boxQ_far (b := Wb1.heap.size + 1) (u0 := .slice a3 n3 c3) (u1 := .slice b3 m3 d3) (q := w.heap.size) (by omega) Hb7.out.2.2.1, Hb7.out.2.2.2.1.box (a' := a3) (b' := n3) (c' := c3) (d' := b3) (e' := m3) (f' := d3) Hb7.out.2.2.2.2.1, boxQ_set (u0 := .slice a3 n3 c3) (u1 := .slice b3 m3 d3) Hb7.out.2.2.2.2.1, boxQ_far (b := Wb1.heap.size + 1) (u0 := .slice a3 n3 c3) (u1 := .slice b3 m3 d3) (q := Wb3.heap.size + 1) (by omega) Hb7.out.2.2.2.2.2.1, Hb7.out.2.2.2.2.2.2.box (a' := a3) (b' := n3) (c' := c3) (d' := b3) (e' := m3) (f' := d3) Hb7.out.2.2.2.2.1⟩)
        clear Hb7
        generalize hzWb8 : ((Wb7.setCell ⟨Wb1.heap.size + 1, 0, none⟩ (.slice a3 n3 c3)).setCell ⟨Wb1.heap.size + 1, 1, none⟩ (.slice b3 m3 d3)) = Wb8 at *
        clear hzWb8
        have x00 := blk_cell Hb8.out.2.2.1 0
        have x01 := blk_cell Hb8.out.2.2.1 1
        simp at x00 x01
        go_wp2_with fail
        clear x00 x01
        refine (rlose_s ((a0, n0, c0), (b0, m0, d0)) L A y Wb8 Hb8.out.2.1).mono ?_
        rintro e Wb9 ⟨⟨⟨a4, n4, c4⟩, ⟨b4, m4, d4⟩⟩, rfl, hN, hb⟩
        rw [HS.out.2.2.1] at hN
        simp only [HS.out.2.2.1]
        have hsWb9 := hb.size
        have Hb9 := Lib.hid (show _ ∧ _ ∧ _ ∧ _ ∧ _ ∧ _ ∧ _ ∧ _ from ⟨below_after Hb8.out.1 hb Hb8.out.1.size, Hb8.out.2.1.grown hb, blk_below Hb8.out.2.2.1 hb (Array.getElem?_eq_some_iff.1 Hb8.out.2.2.1).1, Hb8.out.2.2.2.1.grown hb, blk_below Hb8.out.2.2.2.2.1 hb (Array.getElem?_eq_some_iff.1 Hb8.out.2.2.2.2.1).1, blk_below Hb8.out.2.2.2.2.2.1 hb (Array.getElem?_eq_some_iff.1 Hb8.out.2.2.2.2.2.1).1, Hb8.out.2.2.2.2.2.2.grown hb, hN⟩)
        clear Hb8
        clear hb
        dsimp only [vN] at *
        clear hN
        have g0 := blk_cell Hb9.out.2.2.2.2.2.1 0
        have gf0 := blk_free Hb9.out.2.2.2.2.2.1 0
        have g1 := blk_cell Hb9.out.2.2.2.2.2.1 1
        have gf1 := blk_free Hb9.out.2.2.2.2.2.1 1
        simp at g0 g1
        go_upto_region 23 with fail
        clear g0 g1 gf0 gf1
        have hsWb10 : Wb9.heap.size ≤ ((Wb9.setCell ⟨Wb3.heap.size + 1, 0, none⟩ (.slice a4 n4 c4)).setCell ⟨Wb3.heap.size + 1, 1, none⟩ (.slice b4 m4 d4)).heap.size := by rw [World.size_setCell, World.size_setCell]; exact Nat.le_refl _
        have Hb10 := Lib.hid (show _ ∧ _ ∧ _ ∧ _ ∧ _ ∧ _ ∧ _ ∧ _ from ⟨boxQ_below (b := Wb3.heap.size + 1) (u0 := .slice a4 n4 c4) (u1 := .slice b4 m4 d4) (by omega) Hb9.out.1, Hb9.out.2.1.box (a' := a4) (b' := n4) (c' := c4) (d' := b4) (e' := m4) (f' := d4) Hb9.out.2.2.2.2.2.1, boxQ_far (b := Wb3.heap.size + 1) (u0 := .slice a4 n4 c4) (u1 := .slice b4 m4 d4) (q := w.heap.size) (by omega) Hb9.out.2.2.1, Hb9.out.2.2.2.1.box (a' := a4) (b' := n4) (c' := c4) (d' := b4) (e' := m4) (f' := d4) Hb9.out.2.2.2.2.2.1, boxQ_far (b := Wb3.heap.size + 1) (u0 := .slice a4 n4 c4) (u1 := .slice b4 m4 d4) (q := Wb1.heap.size + 1) (by omega) Hb9.out.2.2.2.2.1, boxQ_set (u0 := .slice a4 n4 c4) (u1 := .slice b4 m4 d4) Hb9.out.2.2.2.2.2.1, Hb9.out.2.2.2.2.2.2.1.box (a' := a4) (b' := n4) (c' := c4) (d' := b4) (e' := m4) (f' := d4) Hb9.out.2.2.2.2.2.1, Hb9.out.2.2.2.2.2.2.2.box (a' := a4) (b' := n4) (c' := c4) (d' := b4) (e' := m4) (f' := d4) Hb9.out.2.2.2.2.2.1⟩)
        clear Hb9
        generalize hzWb10 : ((Wb9.setCell ⟨Wb3.heap.size + 1, 0, none⟩ (.slice a4 n4 c4)).setCell ⟨Wb3.heap.size + 1, 1, none⟩ (.slice b4 m4 d4)) = Wb10 at *
        clear hzWb10
        have zl : (lc != lc) = false := by simp
        have x00 := blk_cell Hb10.out.2.2.2.2.1 0
        have x01 := blk_cell Hb10.out.2.2.2.2.1 1
        simp at x00 x01
        have x10 := blk_cell Hb10.out.2.2.2.2.2.1 0
        have x11 := blk_cell Hb10.out.2.2.2.2.2.1 1
        simp at x10 x11
        go_wp2_with fail
        clear x00 x01 x10 x11
        refine (same_t ((a3, n3, c3), (b3, m3, d3)) ((a4, n4, c4), (b4, m4, d4)) lL lA Wb10 Hb10.out.2.2.2.2.2.2.1 Hb10.out.2.2.2.2.2.2.2).mono ?_
        rintro e Wb11 ⟨rfl, hb⟩
        have hsWb11 := hb.size
        have Hb11 := Lib.hid (show _ ∧ _ ∧ _ ∧ _ ∧ _ ∧ _ from ⟨below_after Hb10.out.1 hb Hb10.out.1.size, Hb10.out.2.1.grown hb, blk_below Hb10.out.2.2.1 hb (Array.getElem?_eq_some_iff.1 Hb10.out.2.2.1).1, Hb10.out.2.2.2.1.grown hb, blk_below Hb10.out.2.2.2.2.1 hb (Array.getElem?_eq_some_iff.1 Hb10.out.2.2.2.2.1).1, blk_below Hb10.out.2.2.2.2.2.1 hb (Array.getElem?_eq_some_iff.1 Hb10.out.2.2.2.2.2.1).1⟩)
        clear Hb10
        clear hb
        go_upto_region 25 with fail
        clear zl
        have x00 := blk_cell Hb11.out.2.2.1 0
        have x01 := blk_cell Hb11.out.2.2.1 1
        simp at x00 x01
        go_wp2_with fail
        clear x00 x01
        refine (repeat_s ((a0, n0, c0), (b0, m0, d0)) L A y Wb11 Hb11.out.2.1).mono ?_
        rintro e Wb12 ⟨⟨⟨a5, n5, c5⟩, ⟨b5, m5, d5⟩⟩, rfl, hN, hb⟩
        rw [HS.out.2.2.2] at hN
        simp only [HS.out.2.2.2]
        have hsWb12 := hb.size
        have Hb12 := Lib.hid (show _ ∧ _ ∧ _ ∧ _ ∧ _ ∧ _ ∧ _ from ⟨below_after Hb11.out.1 hb Hb11.out.1.size, Hb11.out.2.1.grown hb, blk_below Hb11.out.2.2.1 hb (Array.getElem?_eq_some_iff.1 Hb11.out.2.2.1).1, Hb11.out.2.2.2.1.grown hb, blk_below Hb11.out.2.2.2.2.1 hb (Array.getElem?_eq_some_iff.1 Hb11.out.2.2.2.2.1).1, blk_below Hb11.out.2.2.2.2.2 hb (Array.getElem?_eq_some_iff.1 Hb11.out.2.2.2.2.2).1, hN⟩)
        clear Hb11
        clear hb
        dsimp only [vN] at *
        clear hN
        have g0 := blk_cell Hb12.out.2.2.2.2.1 0
        have gf0 := blk_free Hb12.out.2.2.2.2.1 0
        have g1 := blk_cell Hb12.out.2.2.2.2.1 1
        have gf1 := blk_free Hb12.out.2.2.2.2.1 1
        simp at g0 g1
        go_upto_region 26 with fail
        clear g0 g1 gf0 gf1
        have hsWb13 : Wb12.heap.size ≤ ((Wb12.setCell ⟨Wb1.heap.size + 1, 0, none⟩ (.slice a5 n5 c5)).setCell ⟨Wb1.heap.size + 1, 1, none⟩ (.slice b5 m5 d5)).heap.size := by rw [World.size_setCell, World.size_setCell]; exact Nat.le_refl _
        have Hb13 := Lib.hid (show _ ∧ _ ∧ _ ∧ _ ∧ _ ∧ _ ∧ _ from ⟨boxQ_below (b := Wb1.heap.size + 1) (u0 := .slice a5 n5 c5) (u1 := .slice b5 m5 d5) (by omega) Hb12.out.1, Hb12.out.2.1.box (a' := a5) (b' := n5) (c' := c5) (d' := b5) (e' := m5) (f' := d5) Hb12.out.2.2.2.2.1, boxQ_far (b := Wb1.heap.size + 1) (u0 := .slice a5 n5 c5) (u1 := .slice b5 m5 d5) (q := w.heap.size) (by omega) Hb12.out.2.2.1, Hb12.out.2.2.2.1.box (a' := a5) (b' := n5) (c' := c5) (d' := b5) (e' := m5) (f' := d5) Hb12.out.2.2.2.2.1, boxQ_set (u0 := .slice a5 n5 c5) (u1 := .slice b5 m5 d5) Hb12.out.2.2.2.2.1, boxQ_far (b := Wb1.heap.size + 1) (u0 := .slice a5 n5 c5) (u1 := .slice b5 m5 d5) (q := Wb3.heap.size + 1) (by omega) Hb12.out.2.2.2.2.2.1, Hb12.out.2.2.2.2.2.2.box (a' := a5) (b' := n5) (c' := c5) (d' := b5) (e' := m5) (f' := d5) Hb12.out.2.2.2.2.1⟩)
        clear Hb12
        generalize hzWb13 : ((Wb12.setCell ⟨Wb1.heap.size + 1, 0, none⟩ (.slice a5 n5 c5)).setCell ⟨Wb1.heap.size + 1, 1, none⟩ (.slice b5 m5 d5)) = Wb13 at *
        clear hzWb13
        have x00 := blk_cell Hb13.out.2.2.1 0
        have x01 := blk_cell Hb13.out.2.2.1 1
        simp at x00 x01
        go_wp2_with fail
        clear x00 x01
        refine (rrepeat_s ((a0, n0, c0), (b0, m0, d0)) L A y Wb13 Hb13.out.2.1).mono ?_
        rintro e Wb14 ⟨⟨⟨a6, n6, c6⟩, ⟨b6, m6, d6⟩⟩, rfl, hN, hb⟩
        rw [HS.out.2.2.2] at hN
        simp only [HS.out.2.2.2]
        have hsWb14 := hb.size
        have Hb14 := Lib.hid (show _ ∧ _ ∧ _ ∧ _ ∧ _ ∧ _ ∧ _ ∧ _ from ⟨below_after Hb13.out.1 hb Hb13.out.1.size, Hb13.out.2.1.grown hb, blk_below Hb13.out.2.2.1 hb (Array.getElem?_eq_some_iff.1 Hb13.out.2.2.1).1, Hb13.out.2.2.2.1.grown hb, blk_below Hb13.out.2.2.2.2.1 hb (Array.getElem?_eq_some_iff.1 Hb13.out.2.2.2.2.1).1, blk_below Hb13.out.2.2.2.2.2.1 hb (Array.getElem?_eq_some_iff.1 Hb13.out.2.2.2.2.2.1).1, Hb13.out.2.2.2.2.2.2.grown hb, hN⟩)
        clear Hb13
        clear hb
        dsimp only [vN] at *
        clear hN
        have g0 := blk_cell Hb14.out.2.2.2.2.2.1 0
        have gf0 := blk_free Hb14.out.2.2.2.2.2.1 0
        have g1 := blk_cell Hb14.out.2.2.2.2.2.1 1
        have gf1 := blk_free Hb14.out.2.2.2.2.2.1 1
        simp at g0 g1
        go_upto_region 27 with fail
        clear g0 g1 gf0 gf1
        have hsWb15 : Wb14.heap.size ≤ ((Wb14.setCell ⟨Wb3.heap.size + 1, 0, none⟩ (.slice a6 n6 c6)).setCell ⟨Wb3.heap.size + 1, 1, none⟩ (.slice b6 m6 d6)).heap.size := by rw [World.size_setCell, World.size_setCell]; exact Nat.le_refl _
        have Hb15 := Lib.hid (show _ ∧ _ ∧ _ ∧ _ ∧ _ ∧ _ ∧ _ ∧ _ from ⟨boxQ_below (b := Wb3.heap.size + 1) (u0 := .slice a6 n6 c6) (u1 := .slice b6 m6 d6) (by omega) Hb14.out.1, Hb14.out.2.1.box (a' := a6) (b' := n6) (c' := c6) (d' := b6) (e' := m6) (f' := d6) Hb14.out.2.2.2.2.2.1, boxQ_far (b := Wb3.heap.size + 1) (u0 := .slice a6 n6 c6) (u1 := .slice b6 m6 d6) (q := w.heap.size) (by omega) Hb14.out.2.2.1, Hb14.out.2.2.2.1.box (a' := a6) (b' := n6) (c' := c6) (d' := b6) (e' := m6) (f' := d6) Hb14.out.2.2.2.2.2.1, boxQ_far (b := Wb3.heap.size + 1) (u0 := .slice a6 n6 c6) (u1 := .slice b6 m6 d6) (q := Wb1.heap.size + 1) (by omega) Hb14.out.2.2.2.2.1, boxQ_set (u0 := .slice a6 n6 c6) (u1 := .slice b6 m6 d6) Hb14.out.2.2.2.2.2.1, Hb14.out.2.2.2.2.2.2.1.box (a' := a6) (b' := n6) (c' := c6) (d' := b6) (e' := m6) (f' := d6) Hb14.out.2.2.2.2.2.1, Hb14.out.2.2.2.2.2.2.2.box (a' := a6) (b' := n6) (c' := c6) (d' := b6) (e' := m6) (f' := d6) Hb14.out.2.2.2.2.2.1⟩)
        clear Hb14
        generalize hzWb15 : ((Wb14.setCell ⟨Wb3.heap.size + 1, 0, none⟩ (.slice a6 n6 c6)).setCell ⟨Wb3.heap.size + 1, 1, none⟩ (.slice b6 m6 d6)) = Wb15 at *
        clear hzWb15
        have zr : (rc != rc) = false := by simp
        have x00 := blk_cell Hb15.out.2.2.2.2.1 0
        have x01 := blk_cell Hb15.out.2.2.2.2.1 1
        simp at x00 x01
        have x10 := blk_cell Hb15.out.2.2.2.2.2.1 0
        have x11 := blk_cell Hb15.out.2.2.2.2.2.1 1
        simp at x10 x11
        go_wp2_with fail
        clear x00 x01 x10 x11
        refine (same_t ((a5, n5, c5), (b5, m5, d5)) ((a6, n6, c6), (b6, m6, d6)) rL rA Wb15 Hb15.out.2.2.2.2.2.2.1 Hb15.out.2.2.2.2.2.2.2).mono ?_
        rintro e Wb16 ⟨rfl, hb⟩
        have hsWb16 := hb.size
        have Hb16 := Lib.hid (show _ ∧ _ ∧ _ ∧ _ ∧ _ ∧ _ from ⟨below_after Hb15.out.1 hb Hb15.out.1.size, Hb15.out.2.1.grown hb, blk_below Hb15.out.2.2.1 hb (Array.getElem?_eq_some_iff.1 Hb15.out.2.2.1).1, Hb15.out.2.2.2.1.grown hb, blk_below Hb15.out.2.2.2.2.1 hb (Array.getElem?_eq_some_iff.1 Hb15.out.2.2.2.2.1).1, blk_below Hb15.out.2.2.2.2.2.1 hb (Array.getElem?_eq_some_iff.1 Hb15.out.2.2.2.2.2.1).1⟩)
        clear Hb15
        clear hb
        go_wp2
        go_roundw
        case rel => exact ⟨q + 1, by omega, by go_num, Hb16.out.2.2.2.1, Hb16.out.2.2.1, Hb16.out.1⟩
        case measure => simp [intOf] <;> omega
end Go.Proofs.Ythgbkdaimnejeaa
