/- The reference's New (layer 4). -/
import Derived.Test.YtbimmahlcceadaaDskNew
import Derived.Test.YtbimmahlcceadaaDskTorn
namespace Go.Proofs.Ytbimmahlcceadaa
open Go.ChangeShapes Go.WideShapes Go.ChangeAt Go.RowKit
/-- What New answers. -/
def NewS (n : Int) (B : Nat) (w' : World) (e : Ending) : Prop :=
  ((n < 1 ∨ 4096 < n) ∧ e = .returned (.tuple #[.agg #[.slice none 0 0, .slice none 0 0, .int .i64 0, .bool false], .int .i64 1])) ∨
  (∃ (m b cap : Nat) (L : List Sl), n = m ∧ 1 ≤ m ∧ m ≤ 4096 ∧ m ≤ cap ∧ e = .returned (.tuple #[.agg #[.slice (some ⟨b, 0, none⟩) m cap, .slice none 0 0, .int .i64 (-1), .bool false], .int .i64 0]) ∧ Secs w' (some ⟨b, 0, none⟩) b 0 m L ∧ (∀ i, i < m → (nS L i).2.2 = z128) ∧ B ≤ b ∧ ∀ i, i < m → SlG w' B (nS L i))
theorem hdb_cells {w : World} {b m : Nat} {L : List Sl} {t : TypeId} (h : w.heap[b]? = some (.cells (cellsOf L) t (0, 0))) (hl : L.length = m) : HdB w b m L :=
  ⟨_, t, h, by simp [cellsOf, hl], hl, fun i hi => cellsOf_get (by omega)⟩
theorem NewR.s {n : Int} {B : Nat} {w' : World} {e : Ending} (h : NewR n B w' e) : NewS n B w' e := by
  rcases h with h | ⟨m, b, L, h1, h2, h3, h4, h5, h6, h7, h8⟩
  · exact .inl h
  · exact .inr ⟨m, b, m, L, h1, h2, h3, Nat.le_refl _, h5, secs_of_hdb (hdb_cells h7 h6) (fun i hi => (h8 i hi).1.r), fun i hi => (h8 i hi).2, h4, fun i hi => (h8 i hi).1⟩
def ZerB (w : World) (B : Nat) (L : List Sl) (k : Nat) : Prop := ∀ i, i < k → ∃ q, B ≤ q ∧ nS L i = (some ⟨q, 0, none⟩, 128, z128) ∧ w.heap[q]? = some (.cells (bV z128) 5 (0, 0))
theorem ZerB.grown {w w' : World} {B B0 k : Nat} {v : Value} {L L2 : List Sl} (h : ZerB w B0 L k) (hO : Hds w B v L2) (hg : w.grownBy w' v.ownBlock) : ZerB w' B0 L k := fun i hi => by
  obtain ⟨q, hBq, e, hq⟩ := h i hi
  refine ⟨q, hBq, e, (hg.block q (blk_lt hq) ?_).trans hq⟩
  rcases hO.2 with ⟨hv, _⟩ | ⟨g', cap', cur, h1, h2, h3, _⟩
  · rw [hv]; intro h; cases h
  · rw [h1]
    intro h
    have : q = g' := Option.some.inj h
    rw [← this, hq] at h3
    cases h3
theorem Hds.keep {w w' : World} {B : Nat} {v : Value} {l : List Sl} (h : Hds w B v l) (he : ∀ k, B ≤ k → w'.heap[k]? = w.heap[k]?) : Hds w' B v l := by
  refine ⟨h.1, ?_⟩
  rcases h.2 with h0 | ⟨g, cap, cur, h1, h2, h3, h4⟩
  · exact .inl h0
  · exact .inr ⟨g, cap, cur, h1, h2, (he g h2).trans h3, h4⟩
theorem Hds.drewR {w : World} {B : Nat} {v : Value} {l : List Sl} (h : Hds w B v l) : Hds w.drew B v l := h
theorem ZerB.row {w : World} {B0 : Nat} {L : List Sl} {k i : Nat} (h : ZerB w B0 L k) (hi : i < k) : SlG w B0 (nS L i) ∧ (nS L i).2.2 = z128 := by
  obtain ⟨q, hBq, e, hq⟩ := h i hi
  rw [e]
  have := slg_of hq hBq
  rw [z128_len] at this
  exact ⟨this, rfl⟩
theorem ZerB.keep {w w' : World} {B0 : Nat} {L : List Sl} {k : Nat} (h : ZerB w B0 L k) (he : ∀ q : Nat, w.heap[q]? = some (Obj.cells (bV z128) 5 (0, 0)) → w'.heap[q]? = w.heap[q]?) : ZerB w' B0 L k := fun i hi => by
  obtain ⟨q, hBq, e, hq⟩ := h i hi
  exact ⟨q, hBq, e, (he q hq).trans hq⟩
theorem nS_app_l {P Q : List Sl} {i : Nat} (h : i < P.length) : nS (P ++ Q) i = nS P i := by unfold nS; rw [List.getD_eq_getElem?_getD, List.getD_eq_getElem?_getD, List.getElem?_append_left h]
theorem nS_app_r {P : List Sl} {x : Sl} : nS (P ++ [x]) P.length = x := by simp [nS, List.getD_eq_getElem?_getD]
set_option maxRecDepth 100000 in
set_option maxHeartbeats 4000000 in
theorem rnew_any (n : Int) (w : World) :
    Calls Try.prog 13 #[.int .i64 n] w fun e w' => NewS n w.heap.size w' e ∧ Below w.heap.size w w' := by
  go_enter Try.func13, Try.ntmps13
  go_upto_region 1 with fail
  have h1 := blk_new w (.cells #[.slice none 0 0, .slice none 0 0, .int .i64 0, .bool false] 25)
  have hB1 : Below w.heap.size w (w.alloc (.cells #[.slice none 0 0, .slice none 0 0, .int .i64 0, .bool false] 25)) := (Below.refl _ _).alloc (Nat.le_refl _) _
  have zs : (w.alloc (.cells #[.slice none 0 0, .slice none 0 0, .int .i64 0, .bool false] 25)).heap.size = w.heap.size + 1 := by simp
  generalize w.alloc (.cells #[.slice none 0 0, .slice none 0 0, .int .i64 0, .bool false] 25) = W1 at *
  have x0 := blk_cell h1 0
  have x1 := blk_cell h1 1
  have x2 := blk_cell h1 2
  have x3 := blk_cell h1 3
  have f0 := blk_free h1 0
  have f1 := blk_free h1 1
  have f2 := blk_free h1 2
  have f3 := blk_free h1 3
  have HH := Lib.hid (show _ ∧ _ ∧ _ from ⟨h1, hB1, zs⟩)
  clear h1 hB1
  by_cases c0 : n < 1
  · have HC := Lib.hid c0
    clear zs
    go_wp2
    refine bodyPost_ret (v := .tuple #[.agg #[.slice none 0 0, .slice none 0 0, .int .i64 0, .bool false], .int .i64 1]) ?_ rfl ⟨.inl ⟨.inl HC.out, rfl⟩, cell4_below (Nat.le_refl _) HH.out.2.1⟩
    exact results_dk_tmp Try.results13 _ _ w.heap.size 25 _ (0, 0) rfl (cell4_set HH.out.1) (by kernel_rfl) _ rfl
  by_cases c1 : 4096 < n
  · have HC := Lib.hid c1
    clear zs
    go_wp2
    refine bodyPost_ret (v := .tuple #[.agg #[.slice none 0 0, .slice none 0 0, .int .i64 0, .bool false], .int .i64 1]) ?_ rfl ⟨.inl ⟨.inr HC.out, rfl⟩, cell4_below (Nat.le_refl _) HH.out.2.1⟩
    exact results_dk_tmp Try.results13 _ _ w.heap.size 25 _ (0, 0) rfl (cell4_set HH.out.1) (by kernel_rfl) _ rfl
  obtain ⟨m, rfl⟩ := Int.eq_ofNat_of_zero_le (a := n) (by omega)
  have HM := Lib.hid (show 1 ≤ m ∧ m ≤ 4096 by omega)
  clear x0 x1 x2 x3 f0 f1 f2 f3
  go_upto_region 4 with fail
  have h2 := blk_alloc HH.out.1 (.cells #[.slice none 0 0, .slice none 0 0, .int .i64 (-1), .bool false] 25)
  have h3 := blkZ (W := W1) (o := (.cells #[.slice none 0 0, .slice none 0 0, .int .i64 (-1), .bool false] 25)) (k := w.heap.size + 1) zs.symm
  have hB2 := HH.out.2.1.alloc HH.out.2.1.size (.cells #[.slice none 0 0, .slice none 0 0, .int .i64 (-1), .bool false] 25)
  generalize W1.alloc (.cells #[.slice none 0 0, .slice none 0 0, .int .i64 (-1), .bool false] 25) = W2 at *
  have H2 := Lib.hid (show _ ∧ _ ∧ _ from ⟨h3, h2, hB2⟩)
  clear h2 h3 hB2 zs
  go_wp2_with fail
  go_loopw [5] (fun v wr => ∃ (k : Nat) (a : Option Addr) (c : Nat), k ≤ m ∧ v = .int .i64 k ∧ Hid (wr.heap[w.heap.size + 1]? = some (.cells #[.slice a k c, .slice none 0 0, .int .i64 (-1), .bool false] 25 (0, 0)) ∧ wr.heap[w.heap.size]? = some (.cells #[.slice none 0 0, .slice none 0 0, .int .i64 0, .bool false] 25 (0, 0)) ∧ ∃ L : List Sl, L.length = k ∧ Hds wr (w.heap.size + 2) (.slice a k c) L ∧ ZerB wr w.heap.size L k ∧ Below w.heap.size w wr)) (fun v _ => m - (intOf v).toNat)
  case atStart => exact ⟨0, none, 0, Nat.zero_le _, rfl, Lib.hid ⟨H2.out.1, H2.out.2.1, [], rfl, Hds.nil _ _, fun i hi => by omega, H2.out.2.2⟩⟩
  case round =>
    obtain ⟨k, a, c, hk, rfl, HQ⟩ := hrel
    by_cases hkm : k < m
    · have j1 : (k : Int) < (m : Int) := by omega
      have HK := Lib.hid hkm
      have u1 : IntKind.i64.wrap ((k : Int) + 1) = ((k + 1 : Nat) : Int) := (wrap_id (by have := HM.out.2; omega)).trans (by omega)
      clear hkm hk
      go_wp2_with fail
      obtain ⟨L, hL⟩ := HQ.out.2.2
      have HL := Lib.hid hL
      have hlw := blk_lt HQ.out.1
      have r0 := blk_cell (blk_drew HQ.out.1) 0
      clear hL
      refine wp_region_from 0 1 (fun _ => True) (by kernel_rfl) (by kernel_rfl) (by decide) (by kernel_rfl) trivial ?_
      simp only [List.drop_zero, List.take_succ_cons, List.take_zero]
      refine wpHeld_cons (.pointer (some ⟨w.heap.size + 1, 0, none⟩)) (by kernel_rfl) ?_ ?_
      · intro w' s
        try go_simp
      refine wpHeld_nil ?_
      go_simp
      refine wpAnyH_two (i := 1) (j := 2) (by kernel_rfl) rfl rfl (by kernel_rfl) (by kernel_rfl) (fun K' hK' => ?_) (fun K' hK' => ?_)
      · go_simp
        refine hK' _ _ trivial ?_
        clear hK' K'
        go_simp
        refine wpAnyH_one (i := 2) (by kernel_rfl) rfl (by kernel_rfl) (fun K' hK' => ?_)
        go_simp
        rw [run_make128]
        go_simp
        have Hm := Lib.hid (show _ ∧ _ ∧ Hds (wr.alloc (.cells (bV z128) 5)).drew (w.heap.size + 2) (.slice a k c) L ∧ ZerB (wr.alloc (.cells (bV z128) 5)).drew w.heap.size L k ∧ Below w.heap.size w (wr.alloc (.cells (bV z128) 5)).drew ∧ _ from ⟨blk_drew (blk_alloc HQ.out.1 (.cells (bV z128) 5)), blk_drew (blk_alloc HQ.out.2.1 (.cells (bV z128) 5)), (HL.out.2.1.alloc (.cells (bV z128) 5)).drewR, (HL.out.2.2.1.keep (fun q hq => Below.heap_alloc wr (.cells (bV z128) 5) q (blk_lt hq))), (HL.out.2.2.2.alloc HL.out.2.2.2.size (.cells (bV z128) 5)).drew, blk_drew (blk_new wr (.cells (bV z128) 5))⟩)
        have hsm : wr.heap.size < (wr.alloc (.cells (bV z128) 5)).drew.heap.size := by simp
        generalize (wr.alloc (.cells (bV z128) 5)).drew = Wm at *
        have r0 := blk_cell Hm.out.1 0
        refine hK' _ _ trivial ?_
        clear hK' K'
        go_simp
        refine wpAnyH_one (i := 3) (by kernel_rfl) rfl (by kernel_rfl) (fun K' hK' => ?_)
        go_simp
        have Hb := Lib.hid (show _ ∧ _ ∧ Hds (Wm.alloc (.cells #[.slice (some ⟨wr.heap.size, 0, none⟩) 128 128] 35)) (w.heap.size + 2) (.slice a k c) L ∧ ZerB (Wm.alloc (.cells #[.slice (some ⟨wr.heap.size, 0, none⟩) 128 128] 35)) w.heap.size L k ∧ Below w.heap.size w (Wm.alloc (.cells #[.slice (some ⟨wr.heap.size, 0, none⟩) 128 128] 35)) ∧ _ ∧ _ from ⟨blk_alloc Hm.out.1 (.cells #[.slice (some ⟨wr.heap.size, 0, none⟩) 128 128] 35), blk_alloc Hm.out.2.1 (.cells #[.slice (some ⟨wr.heap.size, 0, none⟩) 128 128] 35), Hm.out.2.2.1.alloc (.cells #[.slice (some ⟨wr.heap.size, 0, none⟩) 128 128] 35), (Hm.out.2.2.2.1.keep (fun q hq => Below.heap_alloc Wm (.cells #[.slice (some ⟨wr.heap.size, 0, none⟩) 128 128] 35) q (blk_lt hq))), Hm.out.2.2.2.2.1.alloc Hm.out.2.2.2.2.1.size (.cells #[.slice (some ⟨wr.heap.size, 0, none⟩) 128 128] 35), blk_alloc Hm.out.2.2.2.2.2 (.cells #[.slice (some ⟨wr.heap.size, 0, none⟩) 128 128] 35), blk_new Wm (.cells #[.slice (some ⟨wr.heap.size, 0, none⟩) 128 128] 35)⟩)
        have hsb : Wm.heap.size < (Wm.alloc (.cells #[.slice (some ⟨wr.heap.size, 0, none⟩) 128 128] 35)).heap.size := by simp
        generalize (Wm.alloc (.cells #[.slice (some ⟨wr.heap.size, 0, none⟩) 128 128] 35)) = Wb at *
        clear r0
        have r0 := blk_cell Hb.out.1 0
        refine hK' _ _ trivial ?_
        clear hK' K'
        go_simp
        refine wpAnyH_one (i := 4) (by kernel_rfl) rfl (by kernel_rfl) (fun K' hK' => ?_)
        have hsl : slV (some ⟨wr.heap.size, 0, none⟩, 128, z128) = .slice (some ⟨wr.heap.size, 0, none⟩) 128 128 := by simp [slV, z128_len]
        refine wp_append_h (.tmp 20) (.tmp 22) rfl (w.heap.size + 2) (.slice a k c) L rfl Hb.out.2.2.1 Wm.heap.size (some ⟨wr.heap.size, 0, none⟩, 128, z128) rfl 35 (0, 0) (by rw [hsl]; exact Hb.out.2.2.2.2.2.2) (by have := HL.out.1; have := HM.out; have := HK.out; omega) (by omega) ?_
        intro v5 W5 hO5 hB5 hgr
        clear hsl
        have hq5 : W5.heap[wr.heap.size]? = some (.cells (bV z128) 5 (0, 0)) := by
          refine (hgr.block wr.heap.size (by omega) ?_).trans Hb.out.2.2.2.2.2.1
          rcases Hb.out.2.2.1.2 with ⟨hv, _⟩ | ⟨g', cap', cur, h1, h2, h3, _⟩
          · rw [hv]; intro h; cases h
          · rw [h1]
            intro h
            have e : wr.heap.size = g' := Option.some.inj h
            rw [← e, Hb.out.2.2.2.2.2.1] at h3
            cases h3
        have hz5 : ZerB W5 w.heap.size (L ++ [(some ⟨wr.heap.size, 0, none⟩, 128, z128)]) (k + 1) := fun i hi => by
          by_cases e : i < k
          · rw [nS_app_l (by have := HL.out.1; omega)]
            exact (Hb.out.2.2.2.1.grown Hb.out.2.2.1 hgr) i e
          · obtain rfl : i = L.length := by have := HL.out.1; omega
            rw [nS_app_r]
            exact ⟨_, by omega, rfl, hq5⟩
        obtain ⟨a5, cc5, c5, rfl, -, -, -⟩ := hO5.row
        have hl5 : (L ++ [((some ⟨wr.heap.size, 0, none⟩, 128, z128) : Sl)]).length = k + 1 := by simp; exact HL.out.1
        rw [hl5] at hO5 ⊢
        have H5 := Lib.hid (show _ ∧ _ ∧ _ ∧ _ ∧ _ ∧ _ from ⟨blk_below Hb.out.1 hB5 (by omega), blk_below Hb.out.2.1 hB5 (by omega), hO5, hz5, Hb.out.2.2.2.2.1.trans (hB5.mono (by omega)), hl5⟩)
        clear hq5 hz5 hO5 hB5 hgr hl5 r0
        refine hK' _ _ trivial ?_
        clear hK' K'
        go_simp
        refine wpAnyH_from (fuel := 1) 5 1 (fun _ _ _ _ _ h => h) (by kernel_rfl) (by decide) (by kernel_rfl) trivial ?_
        simp only [List.drop_succ_cons, List.drop_zero, List.take_succ_cons, List.take_zero]
        refine wpHeld_cons (.pointer (some ⟨w.heap.size + 1, 0, none⟩)) (by kernel_rfl) ?_ ?_
        · intro w' s
          try go_simp
        refine wpHeld_nil ?_
        go_simp
        refine wpAnyH_one (i := 6) (by kernel_rfl) rfl (by kernel_rfl) (fun K' hK' => ?_)
        have r0 := blk_cell H5.out.1 0
        have r1 := blk_free H5.out.1 0
        go_simp
        have hx6 : ∀ q, q ≠ w.heap.size + 1 → (W5.setCell ⟨w.heap.size + 1, 0, none⟩ (.slice a5 (k + 1) c5)).heap[q]? = W5.heap[q]? := fun q hq => Below.heap_setCell _ _ _ _ hq
        have H6 := Lib.hid (show (W5.setCell ⟨w.heap.size + 1, 0, none⟩ (.slice a5 (k + 1) c5)).heap[w.heap.size + 1]? = some (.cells #[.slice a5 (k + 1) c5, .slice none 0 0, .int .i64 (-1), .bool false] 25 (0, 0)) ∧ (W5.setCell ⟨w.heap.size + 1, 0, none⟩ (.slice a5 (k + 1) c5)).heap[w.heap.size]? = some (.cells #[.slice none 0 0, .slice none 0 0, .int .i64 0, .bool false] 25 (0, 0)) ∧ ∃ L : List Sl, L.length = (k + 1) ∧ Hds (W5.setCell ⟨w.heap.size + 1, 0, none⟩ (.slice a5 (k + 1) c5)) (w.heap.size + 2) (.slice a5 (k + 1) c5) L ∧ ZerB (W5.setCell ⟨w.heap.size + 1, 0, none⟩ (.slice a5 (k + 1) c5)) w.heap.size L (k + 1) ∧ Below w.heap.size w (W5.setCell ⟨w.heap.size + 1, 0, none⟩ (.slice a5 (k + 1) c5)) from ⟨cells_setU H5.out.1, (hx6 _ (by omega)).trans H5.out.2.1, _, H5.out.2.2.2.2.2, Hds.keep H5.out.2.2.1 (fun q h1 => hx6 q (by omega)), H5.out.2.2.2.1.keep (fun q hq => hx6 q (fun e => by rw [e, H5.out.1] at hq; cases hq)), H5.out.2.2.2.2.1.setCell (p := ⟨w.heap.size + 1, 0, none⟩) (show w.heap.size ≤ w.heap.size + 1 by omega) _⟩)
        clear hx6 r0 r1 H5
        generalize W5.setCell ⟨w.heap.size + 1, 0, none⟩ (.slice a5 (k + 1) c5) = W6 at *
        refine hK' _ _ trivial ?_
        clear hK' K'
        refine wpAnyH_done (by kernel_rfl) ?_ _
        refine NoPanic.normal ?_
        go_simp
        go_wp2_with fail
        go_roundw
        case rel => exact ⟨k + 1, a5, c5, HK.out, by go_num, H6⟩
        case measure => have := HK.out; simp [intOf]; omega
      · go_simp
        rw [run_make128]
        go_simp
        have Hm := Lib.hid (show _ ∧ _ ∧ Hds (wr.alloc (.cells (bV z128) 5)).drew (w.heap.size + 2) (.slice a k c) L ∧ ZerB (wr.alloc (.cells (bV z128) 5)).drew w.heap.size L k ∧ Below w.heap.size w (wr.alloc (.cells (bV z128) 5)).drew ∧ _ from ⟨blk_drew (blk_alloc HQ.out.1 (.cells (bV z128) 5)), blk_drew (blk_alloc HQ.out.2.1 (.cells (bV z128) 5)), (HL.out.2.1.alloc (.cells (bV z128) 5)).drewR, (HL.out.2.2.1.keep (fun q hq => Below.heap_alloc wr (.cells (bV z128) 5) q (blk_lt hq))), (HL.out.2.2.2.alloc HL.out.2.2.2.size (.cells (bV z128) 5)).drew, blk_drew (blk_new wr (.cells (bV z128) 5))⟩)
        have hsm : wr.heap.size < (wr.alloc (.cells (bV z128) 5)).drew.heap.size := by simp
        generalize (wr.alloc (.cells (bV z128) 5)).drew = Wm at *
        have r0 := blk_cell Hm.out.1 0
        refine hK' _ _ trivial ?_
        clear hK' K'
        go_simp
        refine wpAnyH_two (i := 1) (j := 3) (by kernel_rfl) rfl rfl (by kernel_rfl) (by kernel_rfl) (fun K' hK' => ?_) (fun K' hK' => ?_)
        · go_simp
          refine hK' _ _ trivial ?_
          clear hK' K'
          go_simp
          refine wpAnyH_one (i := 3) (by kernel_rfl) rfl (by kernel_rfl) (fun K' hK' => ?_)
          go_simp
          have Hb := Lib.hid (show _ ∧ _ ∧ Hds (Wm.alloc (.cells #[.slice (some ⟨wr.heap.size, 0, none⟩) 128 128] 35)) (w.heap.size + 2) (.slice a k c) L ∧ ZerB (Wm.alloc (.cells #[.slice (some ⟨wr.heap.size, 0, none⟩) 128 128] 35)) w.heap.size L k ∧ Below w.heap.size w (Wm.alloc (.cells #[.slice (some ⟨wr.heap.size, 0, none⟩) 128 128] 35)) ∧ _ ∧ _ from ⟨blk_alloc Hm.out.1 (.cells #[.slice (some ⟨wr.heap.size, 0, none⟩) 128 128] 35), blk_alloc Hm.out.2.1 (.cells #[.slice (some ⟨wr.heap.size, 0, none⟩) 128 128] 35), Hm.out.2.2.1.alloc (.cells #[.slice (some ⟨wr.heap.size, 0, none⟩) 128 128] 35), (Hm.out.2.2.2.1.keep (fun q hq => Below.heap_alloc Wm (.cells #[.slice (some ⟨wr.heap.size, 0, none⟩) 128 128] 35) q (blk_lt hq))), Hm.out.2.2.2.2.1.alloc Hm.out.2.2.2.2.1.size (.cells #[.slice (some ⟨wr.heap.size, 0, none⟩) 128 128] 35), blk_alloc Hm.out.2.2.2.2.2 (.cells #[.slice (some ⟨wr.heap.size, 0, none⟩) 128 128] 35), blk_new Wm (.cells #[.slice (some ⟨wr.heap.size, 0, none⟩) 128 128] 35)⟩)
          have hsb : Wm.heap.size < (Wm.alloc (.cells #[.slice (some ⟨wr.heap.size, 0, none⟩) 128 128] 35)).heap.size := by simp
          generalize (Wm.alloc (.cells #[.slice (some ⟨wr.heap.size, 0, none⟩) 128 128] 35)) = Wb at *
          clear r0
          have r0 := blk_cell Hb.out.1 0
          refine hK' _ _ trivial ?_
          clear hK' K'
          go_simp
          refine wpAnyH_one (i := 4) (by kernel_rfl) rfl (by kernel_rfl) (fun K' hK' => ?_)
          have hsl : slV (some ⟨wr.heap.size, 0, none⟩, 128, z128) = .slice (some ⟨wr.heap.size, 0, none⟩) 128 128 := by simp [slV, z128_len]
          refine wp_append_h (.tmp 20) (.tmp 22) rfl (w.heap.size + 2) (.slice a k c) L rfl Hb.out.2.2.1 Wm.heap.size (some ⟨wr.heap.size, 0, none⟩, 128, z128) rfl 35 (0, 0) (by rw [hsl]; exact Hb.out.2.2.2.2.2.2) (by have := HL.out.1; have := HM.out; have := HK.out; omega) (by omega) ?_
          intro v5 W5 hO5 hB5 hgr
          clear hsl
          have hq5 : W5.heap[wr.heap.size]? = some (.cells (bV z128) 5 (0, 0)) := by
            refine (hgr.block wr.heap.size (by omega) ?_).trans Hb.out.2.2.2.2.2.1
            rcases Hb.out.2.2.1.2 with ⟨hv, _⟩ | ⟨g', cap', cur, h1, h2, h3, _⟩
            · rw [hv]; intro h; cases h
            · rw [h1]
              intro h
              have e : wr.heap.size = g' := Option.some.inj h
              rw [← e, Hb.out.2.2.2.2.2.1] at h3
              cases h3
          have hz5 : ZerB W5 w.heap.size (L ++ [(some ⟨wr.heap.size, 0, none⟩, 128, z128)]) (k + 1) := fun i hi => by
            by_cases e : i < k
            · rw [nS_app_l (by have := HL.out.1; omega)]
              exact (Hb.out.2.2.2.1.grown Hb.out.2.2.1 hgr) i e
            · obtain rfl : i = L.length := by have := HL.out.1; omega
              rw [nS_app_r]
              exact ⟨_, by omega, rfl, hq5⟩
          obtain ⟨a5, cc5, c5, rfl, -, -, -⟩ := hO5.row
          have hl5 : (L ++ [((some ⟨wr.heap.size, 0, none⟩, 128, z128) : Sl)]).length = k + 1 := by simp; exact HL.out.1
          rw [hl5] at hO5 ⊢
          have H5 := Lib.hid (show _ ∧ _ ∧ _ ∧ _ ∧ _ ∧ _ from ⟨blk_below Hb.out.1 hB5 (by omega), blk_below Hb.out.2.1 hB5 (by omega), hO5, hz5, Hb.out.2.2.2.2.1.trans (hB5.mono (by omega)), hl5⟩)
          clear hq5 hz5 hO5 hB5 hgr hl5 r0
          refine hK' _ _ trivial ?_
          clear hK' K'
          go_simp
          refine wpAnyH_from (fuel := 1) 5 1 (fun _ _ _ _ _ h => h) (by kernel_rfl) (by decide) (by kernel_rfl) trivial ?_
          simp only [List.drop_succ_cons, List.drop_zero, List.take_succ_cons, List.take_zero]
          refine wpHeld_cons (.pointer (some ⟨w.heap.size + 1, 0, none⟩)) (by kernel_rfl) ?_ ?_
          · intro w' s
            try go_simp
          refine wpHeld_nil ?_
          go_simp
          refine wpAnyH_one (i := 6) (by kernel_rfl) rfl (by kernel_rfl) (fun K' hK' => ?_)
          have r0 := blk_cell H5.out.1 0
          have r1 := blk_free H5.out.1 0
          go_simp
          have hx6 : ∀ q, q ≠ w.heap.size + 1 → (W5.setCell ⟨w.heap.size + 1, 0, none⟩ (.slice a5 (k + 1) c5)).heap[q]? = W5.heap[q]? := fun q hq => Below.heap_setCell _ _ _ _ hq
          have H6 := Lib.hid (show (W5.setCell ⟨w.heap.size + 1, 0, none⟩ (.slice a5 (k + 1) c5)).heap[w.heap.size + 1]? = some (.cells #[.slice a5 (k + 1) c5, .slice none 0 0, .int .i64 (-1), .bool false] 25 (0, 0)) ∧ (W5.setCell ⟨w.heap.size + 1, 0, none⟩ (.slice a5 (k + 1) c5)).heap[w.heap.size]? = some (.cells #[.slice none 0 0, .slice none 0 0, .int .i64 0, .bool false] 25 (0, 0)) ∧ ∃ L : List Sl, L.length = (k + 1) ∧ Hds (W5.setCell ⟨w.heap.size + 1, 0, none⟩ (.slice a5 (k + 1) c5)) (w.heap.size + 2) (.slice a5 (k + 1) c5) L ∧ ZerB (W5.setCell ⟨w.heap.size + 1, 0, none⟩ (.slice a5 (k + 1) c5)) w.heap.size L (k + 1) ∧ Below w.heap.size w (W5.setCell ⟨w.heap.size + 1, 0, none⟩ (.slice a5 (k + 1) c5)) from ⟨cells_setU H5.out.1, (hx6 _ (by omega)).trans H5.out.2.1, _, H5.out.2.2.2.2.2, Hds.keep H5.out.2.2.1 (fun q h1 => hx6 q (by omega)), H5.out.2.2.2.1.keep (fun q hq => hx6 q (fun e => by rw [e, H5.out.1] at hq; cases hq)), H5.out.2.2.2.2.1.setCell (p := ⟨w.heap.size + 1, 0, none⟩) (show w.heap.size ≤ w.heap.size + 1 by omega) _⟩)
          clear hx6 r0 r1 H5
          generalize W5.setCell ⟨w.heap.size + 1, 0, none⟩ (.slice a5 (k + 1) c5) = W6 at *
          refine hK' _ _ trivial ?_
          clear hK' K'
          refine wpAnyH_done (by kernel_rfl) ?_ _
          refine NoPanic.normal ?_
          go_simp
          go_wp2_with fail
          go_roundw
          case rel => exact ⟨k + 1, a5, c5, HK.out, by go_num, H6⟩
          case measure => have := HK.out; simp [intOf]; omega
        · go_simp
          have Hb := Lib.hid (show _ ∧ _ ∧ Hds (Wm.alloc (.cells #[.slice (some ⟨wr.heap.size, 0, none⟩) 128 128] 35)) (w.heap.size + 2) (.slice a k c) L ∧ ZerB (Wm.alloc (.cells #[.slice (some ⟨wr.heap.size, 0, none⟩) 128 128] 35)) w.heap.size L k ∧ Below w.heap.size w (Wm.alloc (.cells #[.slice (some ⟨wr.heap.size, 0, none⟩) 128 128] 35)) ∧ _ ∧ _ from ⟨blk_alloc Hm.out.1 (.cells #[.slice (some ⟨wr.heap.size, 0, none⟩) 128 128] 35), blk_alloc Hm.out.2.1 (.cells #[.slice (some ⟨wr.heap.size, 0, none⟩) 128 128] 35), Hm.out.2.2.1.alloc (.cells #[.slice (some ⟨wr.heap.size, 0, none⟩) 128 128] 35), (Hm.out.2.2.2.1.keep (fun q hq => Below.heap_alloc Wm (.cells #[.slice (some ⟨wr.heap.size, 0, none⟩) 128 128] 35) q (blk_lt hq))), Hm.out.2.2.2.2.1.alloc Hm.out.2.2.2.2.1.size (.cells #[.slice (some ⟨wr.heap.size, 0, none⟩) 128 128] 35), blk_alloc Hm.out.2.2.2.2.2 (.cells #[.slice (some ⟨wr.heap.size, 0, none⟩) 128 128] 35), blk_new Wm (.cells #[.slice (some ⟨wr.heap.size, 0, none⟩) 128 128] 35)⟩)
          have hsb : Wm.heap.size < (Wm.alloc (.cells #[.slice (some ⟨wr.heap.size, 0, none⟩) 128 128] 35)).heap.size := by simp
          generalize (Wm.alloc (.cells #[.slice (some ⟨wr.heap.size, 0, none⟩) 128 128] 35)) = Wb at *
          clear r0
          have r0 := blk_cell Hb.out.1 0
          refine hK' _ _ trivial ?_
          clear hK' K'
          go_simp
          refine wpAnyH_one (i := 1) (by kernel_rfl) rfl (by kernel_rfl) (fun K' hK' => ?_)
          go_simp
          refine hK' _ _ trivial ?_
          clear hK' K'
          go_simp
          refine wpAnyH_one (i := 4) (by kernel_rfl) rfl (by kernel_rfl) (fun K' hK' => ?_)
          have hsl : slV (some ⟨wr.heap.size, 0, none⟩, 128, z128) = .slice (some ⟨wr.heap.size, 0, none⟩) 128 128 := by simp [slV, z128_len]
          refine wp_append_h (.tmp 20) (.tmp 22) rfl (w.heap.size + 2) (.slice a k c) L rfl Hb.out.2.2.1 Wm.heap.size (some ⟨wr.heap.size, 0, none⟩, 128, z128) rfl 35 (0, 0) (by rw [hsl]; exact Hb.out.2.2.2.2.2.2) (by have := HL.out.1; have := HM.out; have := HK.out; omega) (by omega) ?_
          intro v5 W5 hO5 hB5 hgr
          clear hsl
          have hq5 : W5.heap[wr.heap.size]? = some (.cells (bV z128) 5 (0, 0)) := by
            refine (hgr.block wr.heap.size (by omega) ?_).trans Hb.out.2.2.2.2.2.1
            rcases Hb.out.2.2.1.2 with ⟨hv, _⟩ | ⟨g', cap', cur, h1, h2, h3, _⟩
            · rw [hv]; intro h; cases h
            · rw [h1]
              intro h
              have e : wr.heap.size = g' := Option.some.inj h
              rw [← e, Hb.out.2.2.2.2.2.1] at h3
              cases h3
          have hz5 : ZerB W5 w.heap.size (L ++ [(some ⟨wr.heap.size, 0, none⟩, 128, z128)]) (k + 1) := fun i hi => by
            by_cases e : i < k
            · rw [nS_app_l (by have := HL.out.1; omega)]
              exact (Hb.out.2.2.2.1.grown Hb.out.2.2.1 hgr) i e
            · obtain rfl : i = L.length := by have := HL.out.1; omega
              rw [nS_app_r]
              exact ⟨_, by omega, rfl, hq5⟩
          obtain ⟨a5, cc5, c5, rfl, -, -, -⟩ := hO5.row
          have hl5 : (L ++ [((some ⟨wr.heap.size, 0, none⟩, 128, z128) : Sl)]).length = k + 1 := by simp; exact HL.out.1
          rw [hl5] at hO5 ⊢
          have H5 := Lib.hid (show _ ∧ _ ∧ _ ∧ _ ∧ _ ∧ _ from ⟨blk_below Hb.out.1 hB5 (by omega), blk_below Hb.out.2.1 hB5 (by omega), hO5, hz5, Hb.out.2.2.2.2.1.trans (hB5.mono (by omega)), hl5⟩)
          clear hq5 hz5 hO5 hB5 hgr hl5 r0
          refine hK' _ _ trivial ?_
          clear hK' K'
          go_simp
          refine wpAnyH_from (fuel := 1) 5 1 (fun _ _ _ _ _ h => h) (by kernel_rfl) (by decide) (by kernel_rfl) trivial ?_
          simp only [List.drop_succ_cons, List.drop_zero, List.take_succ_cons, List.take_zero]
          refine wpHeld_cons (.pointer (some ⟨w.heap.size + 1, 0, none⟩)) (by kernel_rfl) ?_ ?_
          · intro w' s
            try go_simp
          refine wpHeld_nil ?_
          go_simp
          refine wpAnyH_one (i := 6) (by kernel_rfl) rfl (by kernel_rfl) (fun K' hK' => ?_)
          have r0 := blk_cell H5.out.1 0
          have r1 := blk_free H5.out.1 0
          go_simp
          have hx6 : ∀ q, q ≠ w.heap.size + 1 → (W5.setCell ⟨w.heap.size + 1, 0, none⟩ (.slice a5 (k + 1) c5)).heap[q]? = W5.heap[q]? := fun q hq => Below.heap_setCell _ _ _ _ hq
          have H6 := Lib.hid (show (W5.setCell ⟨w.heap.size + 1, 0, none⟩ (.slice a5 (k + 1) c5)).heap[w.heap.size + 1]? = some (.cells #[.slice a5 (k + 1) c5, .slice none 0 0, .int .i64 (-1), .bool false] 25 (0, 0)) ∧ (W5.setCell ⟨w.heap.size + 1, 0, none⟩ (.slice a5 (k + 1) c5)).heap[w.heap.size]? = some (.cells #[.slice none 0 0, .slice none 0 0, .int .i64 0, .bool false] 25 (0, 0)) ∧ ∃ L : List Sl, L.length = (k + 1) ∧ Hds (W5.setCell ⟨w.heap.size + 1, 0, none⟩ (.slice a5 (k + 1) c5)) (w.heap.size + 2) (.slice a5 (k + 1) c5) L ∧ ZerB (W5.setCell ⟨w.heap.size + 1, 0, none⟩ (.slice a5 (k + 1) c5)) w.heap.size L (k + 1) ∧ Below w.heap.size w (W5.setCell ⟨w.heap.size + 1, 0, none⟩ (.slice a5 (k + 1) c5)) from ⟨cells_setU H5.out.1, (hx6 _ (by omega)).trans H5.out.2.1, _, H5.out.2.2.2.2.2, Hds.keep H5.out.2.2.1 (fun q h1 => hx6 q (by omega)), H5.out.2.2.2.1.keep (fun q hq => hx6 q (fun e => by rw [e, H5.out.1] at hq; cases hq)), H5.out.2.2.2.2.1.setCell (p := ⟨w.heap.size + 1, 0, none⟩) (show w.heap.size ≤ w.heap.size + 1 by omega) _⟩)
          clear hx6 r0 r1 H5
          generalize W5.setCell ⟨w.heap.size + 1, 0, none⟩ (.slice a5 (k + 1) c5) = W6 at *
          refine hK' _ _ trivial ?_
          clear hK' K'
          refine wpAnyH_done (by kernel_rfl) ?_ _
          refine NoPanic.normal ?_
          go_simp
          go_wp2_with fail
          go_roundw
          case rel => exact ⟨k + 1, a5, c5, HK.out, by go_num, H6⟩
          case measure => have := HK.out; simp [intOf]; omega
    · obtain rfl : k = m := by omega
      have j1 : ¬ (k : Int) < (k : Int) := by omega
      have x0 := blk_cell HQ.out.1 0
      have x1 := blk_cell HQ.out.1 1
      have x2 := blk_cell HQ.out.1 2
      have x3 := blk_cell HQ.out.1 3
      have z0 := blk_cell HQ.out.2.1 0
      have z1 := blk_cell HQ.out.2.1 1
      have z2 := blk_cell HQ.out.2.1 2
      have z3 := blk_cell HQ.out.2.1 3
      have f0 := blk_free HQ.out.2.1 0
      have f1 := blk_free HQ.out.2.1 1
      have f2 := blk_free HQ.out.2.1 2
      have f3 := blk_free HQ.out.2.1 3
      obtain ⟨L, hl, hO, hZ, hB⟩ := HQ.out.2.2
      obtain ⟨g, cap, he, hg, hcap, hd⟩ := hdb_of hO hl (by have := HM.out; omega)
      cases he
      have HE := Lib.hid (show _ ∧ _ ∧ _ ∧ _ ∧ _ ∧ _ from ⟨hl, hZ, hB, hg, hcap, hd⟩)
      clear hl hO hZ hB hg hcap hd
      go_wp2
      have hbF := cell4_below (u0 := .slice (some ⟨g, 0, none⟩) k c) (u1 := .slice none 0 0) (u2 := .int .i64 (-1)) (u3 := .bool false) (Nat.le_refl w.heap.size) HE.out.2.2.1
      have hkF : ∀ q, q ≠ w.heap.size → ((((wr.setCell ⟨w.heap.size, 0, none⟩ (.slice (some ⟨g, 0, none⟩) k c)).setCell ⟨w.heap.size, 1, none⟩ (.slice none 0 0)).setCell ⟨w.heap.size, 2, none⟩ (.int .i64 (-1))).setCell ⟨w.heap.size, 3, none⟩ (.bool false)).heap[q]? = wr.heap[q]? := fun q hq => cell4_keep hq
      have hZF := HE.out.2.1.keep (fun q hq => hkF q (fun e => by rw [e, HQ.out.2.1] at hq; cases hq))
      refine bodyPost_ret (v := .tuple #[.agg #[.slice (some ⟨g, 0, none⟩) k c, .slice none 0 0, .int .i64 (-1), .bool false], .int .i64 0]) ?_ rfl ⟨.inr ⟨k, g, c, L, rfl, HM.out.1, HM.out.2, HE.out.2.2.2.2.1, rfl, secs_of_hdb (HE.out.2.2.2.2.2.other (hkF g (by have := HE.out.2.2.2.1; omega))) (fun i hi => (hZF.row hi).1.r), fun i hi => (hZF.row hi).2, by have := HE.out.2.2.2.1; omega, fun i hi => (hZF.row hi).1⟩, hbF⟩
      exact results_dk_tmp Try.results13 _ _ w.heap.size 25 _ (0, 0) rfl (cell4_set HQ.out.2.1) (by kernel_rfl) _ rfl
end Go.Proofs.Ytbimmahlcceadaa
