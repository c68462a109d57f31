/- The walk of Convert (layer 26). -/
import Derived.Test.YtipjogicjgkgjaaSpConvA
import Derived.Laws.EntriesVeiled
namespace Go.Proofs.Ytipjogicjgkgjaa
open Go.RowKit Go.Shelf

attribute [local go_sem] Oper.semAt_some

theorem cvStart2 {w wS w1 : World} {a : Option Addr} {n cap : Nat} {b : Int} {M : Nat} (hw : wS = ((w.alloc (.cells #[.slice none 0 0] 22)).alloc (.cells #[.slice a n cap] 22)).alloc (.cells #[.int .i64 b] 3))
    (hS : w1.ownsRow (w.heap.size + 4) 3 1 (.slice (some ⟨(wS.alloc (.cells #[.func (.func 29) #[] #[.pointer (some ⟨w.heap.size + 1, 0, none⟩), .pointer (some ⟨w.heap.size + 1 + 1, 0, none⟩)]] 41)).heap.size, 0, none⟩) 0 M) 0 [])
    (hG : (wS.alloc (.cells #[.func (.func 29) #[] #[.pointer (some ⟨w.heap.size + 1, 0, none⟩), .pointer (some ⟨w.heap.size + 1 + 1, 0, none⟩)]] 41)).grownBy w1 none) : CvS w w1 a n cap b M := by
  subst hw
  exact cvStart hS hG

theorem blk_below_any {w w' : World} {B k : Nat} {o : Obj} (h : w.heap[k]? = some o) (hB : Below B w w') (hk : k < B) : w'.heap[k]? = some o := (hB.block k hk).trans h

set_option maxRecDepth 100000 in
set_option maxHeartbeats 8000000 in
theorem convert_in (a : Option Addr) (b off n cap M : Nat) (l : List Int) (aa bb : Int) (w : World) (hR : Row w a b off n l) (hn : n ≤ 16777216) (hs : Spd aa bb) (hM : lenV n aa bb = (M : Int)) (hM2 : M ≤ 1000000) :
    CallsIn Fence.wide 5 Try.prog 15 #[.slice a n cap, .int .i64 aa, .int .i64 bb] w fun e w' => ∃ v, e = .returned (.tuple #[v, .int .i64 0]) ∧ Ints w' w.heap.size v (convL l aa bb M) ∧ Below w.heap.size w w' := by
  have hro : Fence.wide.round = none := rfl
  obtain ⟨i0, hi, hz0, hz1, hz2⟩ := info_parts info_int
  have v1 := spd_t hs
  obtain ⟨⟨a1, a2⟩, ⟨b1, b2⟩, hgc⟩ := hs
  have HR := Lib.hid hR; clear hR hgc
  refine callsIn_of_wp_marks Try.func15 rfl trivial ?_ hro
  simp only [Try.ntmps15, List.size_toArray, List.length_cons, List.length_nil, Nat.reduceAdd, Nat.reduceSub, Array.replicate_succ, Array.replicate_zero, List.push_toArray, List.append_toArray, List.nil_append, List.cons_append]
  refine wpIn_wide.2 ?_
  go_wp2_with (first
    | (go_at_call 20; refine (isSpeed_any _ _ _).mono ?_; rintro e w' ⟨rfl, rfl⟩; rw [v1])
    | (go_at_call 22; refine (length_any _ _ _ _ (by omega) (by omega) a1 a2 b1 b2).mono ?_; rintro e w' ⟨rfl, rfl⟩; rw [hM])
    | (go_at_call 25; refine (sampler_any _ _ _ _ _).mono ?_; rintro e wS ⟨rfl, hwS⟩; have HWS := Lib.hid hwS; clear hwS)
    | (at_make; refine wpList_make_own _ rfl _ _ 22 rfl (w.heap.size + 4) 3 i0 (.int .i64 0) 1 Try.underlying22 hi hz0 hz1 _ _ _ M rfl rfl rfl (by rw [hz2]; omega) (by unfold maxLen; omega) (by rw [HWS.out]; simp) ?_; intro w1 hS hG; have HS := Lib.hid (cvStart2 HWS.out hS hG); clear hS hG; have c0 := blk_cell HS.out.s0 0; have f0 := blk_free HS.out.s0 0; simp at c0 f0)
    | (go_at_call 27; refine (places_any _ _ _ _).mono ?_; rintro e w' ⟨rfl, rfl⟩))
  -- WALK
  have hz : wS.heap.size = w.heap.size + 1 + 1 + 1 := by rw [HWS.out]; simp
  rw [show wS.heap.size + 1 = w.heap.size + 4 by omega, hz]
  obtain ⟨W0, hW0⟩ : ∃ W0, W0 = (((w1.setCell ⟨w.heap.size, 0, none⟩ (.slice (some ⟨w.heap.size + 4, 0, none⟩) 0 M)).alloc (.cells #[.int .i64 aa] 3)).alloc (.cells #[.int .i64 bb] 3)).alloc (.cells #[.int .i64 M] 3) := ⟨_, rfl⟩
  have HF := Lib.hid (HS.out.rest hW0)
  rw [← hW0]
  clear hW0 HS HWS c0 f0 hz
  have F0 := HF.out.size
  have F1 := HF.out.lo
  refine wpIn_wide.1 (?_ : Code.wpIn Fence.wide 5 _ _ _ _ _)
  refine wpIn_rangeFunc_ownH rfl (by omega) (gf := 33) (lb := #[.pointer (some ⟨w1.heap.size + 1 + 1, 0, none⟩), .pointer (some ⟨w1.heap.size, 0, none⟩), .pointer (some ⟨w1.heap.size + 1, 0, none⟩)]) rfl trivial (enters_of Try.func33 (by kernel_rfl) rfl)
    (places_stops Fence.wide _ trivial rfl (by omega) (w1.heap.size + 1 + 1) w1.heap.size (w1.heap.size + 1) M aa bb (by omega) a1 a2 b1 b2 W0 (fun j => ¬ (j = w1.heap.size ∨ j = w1.heap.size + 1 ∨ j = w1.heap.size + 1 + 1)) (fun g => g (by omega)) (fun g => g (by omega)) HF.out.b1 HF.out.b2 HF.out.b3)
    kpEx_t kpEx_b (Below.refl _ _) (fun _ => rfl)
    (fun pre W => CvR w W a n cap bb (w.heap.size + 4) W0.heap.size (pre.map fun y => smpI l aa bb y.1) ∧ Below w.heap.size w W)
    (fun c pre W => False ∧ Below w.heap.size w W)
    (OwnFrom.and (Own.from (fun s A B row hs hg hr => hs.grown hg hr) _) (ownFrom_below (Nat.le_refl _) (by omega)))
    (fun c => OwnFrom.and (Own.from (fun s A B row hs hg hr => hs.elim) _) (ownFrom_below (Nat.le_refl _) (by omega)))
    ⟨HF.out.start, HF.out.bel⟩
    (fun x a' W => a' = { tmps := #[.slice a n cap, .int .i64 aa, .int .i64 bb, undef, undef, undef, .pointer (some ⟨w.heap.size, 0, none⟩), .int .i64 0, .int .i64 M, .pointer (some ⟨w.heap.size + 1 + 1 + 1, 0, none⟩), .int .i64 ((x.1 : Int) * aa / bb), .int .i64 ((x.1 : Int) * aa % bb), .int .i64 aa, .int .i64 bb, .bool true, .bool false, .bool false, .slice a n cap, .int .i64 n, .bool (decide ((16777216 : Int) < (n : Int))), .bool (decide ((16777216 : Int) < (n : Int))), .slice a n cap, .int .i64 n, .int .i64 aa, .int .i64 bb, .int .i64 M, .int .i64 M, .bool (decide ((16777216 : Int) < (M : Int))), .slice a n cap, .int .i64 bb, .func (.func 29) #[] #[.pointer (some ⟨w.heap.size + 1, 0, none⟩), .pointer (some ⟨w.heap.size + 1 + 1, 0, none⟩)], .int .i64 M, .slice (some ⟨w.heap.size + 4, 0, none⟩) 0 M, .int .i64 aa, .int .i64 bb, .int .i64 M, .func (.func 33) #[] #[.pointer (some ⟨w1.heap.size + 1 + 1, 0, none⟩), .pointer (some ⟨w1.heap.size, 0, none⟩), .pointer (some ⟨w1.heap.size + 1, 0, none⟩)], .int .i64 ((x.1 : Int) * aa / bb), .int .i64 ((x.1 : Int) * aa % bb), undef, undef, undef, undef, undef, undef, undef, undef], defers := [] })
    (fun x a' => Own.from (fun s A B row hs hg hr => hs) _) ?assign ?body ?done ?stop
  case assign =>
    rintro lp pre x W K ⟨hI, hB⟩ hK
    simp only [encP]
    gi_wp2
    refine hK _ _ (KeepsFrom.refl _ _) (KpEx.refl _ _) ⟨hI, hB⟩ ?_
    rfl
  case body =>
    rintro lp pre x a' W _ _ ⟨hI, hB⟩ rfl hpl
    obtain ⟨q, hq, hqn, hq1, p0⟩ := place_ok (n := n) (i := x.1) a1 b1 (by rw [hM]; have := x.2; omega)
    have hy : smpI l aa bb x.1 = sV l q ((x.1 : Int) * aa % bb) bb := by unfold smpI; rw [hq]; rfl
    have r0 : 0 ≤ (x.1 : Int) * aa % bb := Int.emod_nonneg _ (by omega)
    have r1 : (x.1 : Int) * aa % bb ≤ bb := Int.le_of_lt (Int.emod_lt_of_pos _ (by omega))
    rw [hq]
    generalize hr : (x.1 : Int) * aa % bb = r at *
    obtain ⟨y, hsv⟩ : ∃ y, y = sV l q r bb := ⟨_, rfl⟩
    rw [← hsv] at hy
    have HSV := Lib.hid hsv
    clear hr hsv p0 hq
    obtain ⟨i1, i2, i3, ⟨v, i0', iO⟩, ibb⟩ := hI
    have c9 := blk_cell i3 0; have c6 := blk_cell i0' 0
    simp at c9 c6
    obtain ⟨av0, nv0, cv0, rfl⟩ := iO.own.isSlice
    obtain ⟨v, hv⟩ : ∃ v, v = Value.slice av0 nv0 cv0 := ⟨_, rfl⟩
    have HV := Lib.hid hv
    rw [← hv] at iO i0' c6
    clear hv
    have bsz := hB.size
    have rowW := HR.out.below hB.drew (Nat.le_refl _)
    have HALL : ∀ W3 : World, Below W.heap.size W W3 → KeepsOthers W W3 ∧ IntsX (W3.alloc (.cells #[.int .i64 y] 3)) (w.heap.size + 4) W0.heap.size v (pre.map fun y => smpI l aa bb y.1) ∧
        ∀ v' w2, IntsX w2 (w.heap.size + 4) W0.heap.size v' ((pre.map fun y => smpI l aa bb y.1) ++ [y]) → UpdB (w.heap.size + 4) W0.heap.size (W3.alloc (.cells #[.int .i64 y] 3)) w2 → KeepsOthers (W3.alloc (.cells #[.int .i64 y] 3)) w2 →
          w2.heap[w.heap.size]? = some (.cells #[v] 22 (0, 0)) ∧ w2.cell? ⟨w.heap.size + 1 + 1 + 1, 0, none⟩ = some (.func (.func 29) #[] #[.pointer (some ⟨w.heap.size + 1, 0, none⟩), .pointer (some ⟨w.heap.size + 1 + 1, 0, none⟩)]) ∧
          KeepsOthers W (w2.setCell ⟨w.heap.size, 0, none⟩ v') ∧ KpEx (fun j => ¬ (j = w1.heap.size ∨ j = w1.heap.size + 1 ∨ j = w1.heap.size + 1 + 1)) W (w2.setCell ⟨w.heap.size, 0, none⟩ v') ∧
          CvR w (w2.setCell ⟨w.heap.size, 0, none⟩ v') a n cap bb (w.heap.size + 4) W0.heap.size ((pre.map fun y => smpI l aa bb y.1) ++ [smpI l aa bb x.1]) ∧ Below w.heap.size w (w2.setCell ⟨w.heap.size, 0, none⟩ v') := by
      intro W3 hB3
      have hB4 : Below W.heap.size W (W3.alloc (.cells #[.int .i64 y] 3)) := hB3.alloc hB3.size _
      have s4 := hB4.size
      refine ⟨others_below hB3, (iO.below hB3 (Nat.le_refl _)).alloc _, fun v' w2 hO2 hU2 hk2 => ?_⟩
      have k1 := blk_below i1 hB4 (by omega)
      have k2 := blk_below i2 hB4 (by omega)
      have k3 := blk_below i3 hB4 (by omega)
      have k0 := blk_below i0' hB4 (by omega)
      have c3 := blk_cell (hU2.keep k3 (by omega) (by omega)) 0
      simp at c3
      refine ⟨hU2.keep k0 (by omega) (by omega), c3, (others_below hB4).trans (hk2.trans (KeepsOthers.setCell _ _ _)), ⟨?_, fun k ob hk _ hn => ?_⟩, ?_, ?_⟩
      · rw [World.size_setCell]; exact Nat.le_trans s4 hU2.size
      · have hkw : k < W.heap.size := (Array.getElem?_eq_some_iff.1 hk).1
        have : k = w1.heap.size ∨ k = w1.heap.size + 1 ∨ k = w1.heap.size + 1 + 1 := Decidable.not_not.1 hn
        exact (Below.heap_setCell _ _ _ _ (show k ≠ w.heap.size by omega)).trans (hU2.keep (blk_below_any hk hB4 hkw) (by omega) (by omega))
      · rw [hy]
        exact CvR.push k1 k2 k3 k0 (Nat.le_trans ibb s4) hO2 hU2 rfl (by omega)
      · exact (hU2.below (hB.trans (hB4.mono bsz)) (by omega) (by omega)).setCell (p := ⟨w.heap.size, 0, none⟩) (Nat.le_refl _) _
    have HI := Lib.hid (show _ ∧ _ ∧ _ ∧ _ from ⟨rowW, i1, i2, HALL⟩)
    clear i1 i2 i3 i0' iO HALL rowW hy
    gi_wp2
    refine wpIn_round_from 1 3 (fun w' => w'.cell? ⟨w.heap.size + 1 + 1 + 1, 0, none⟩ = some (.func (.func 29) #[] #[.pointer (some ⟨w.heap.size + 1, 0, none⟩), .pointer (some ⟨w.heap.size + 1 + 1, 0, none⟩)])) (by kernel_rfl) (by kernel_rfl) (by rintro ⟨a, w, h⟩; exact h) (fun _ _ _ _ _ h => h) (by kernel_rfl) (by decide) (by kernel_rfl) c9 ?_
    simp only [List.drop_succ_cons, List.drop_zero, List.take_succ_cons, List.take_zero]
    refine wpHeld_cons (.func (.func 29) #[] #[.pointer (some ⟨w.heap.size + 1, 0, none⟩), .pointer (some ⟨w.heap.size + 1 + 1, 0, none⟩)]) (by kernel_rfl) ?_ ?_
    · intro w' s0
      try go_simp
    refine wpHeld_cons (.int .i64 (q : Int)) (by kernel_rfl) ?_ ?_
    · intro w' s0
      try go_simp
    refine wpHeld_cons (.int .i64 r) (by kernel_rfl) ?_ ?_
    · intro w' s0
      try go_simp
    refine wpHeld_nil ?_
    go_simp
    refine wpAnyH_two (i := 0) (j := 4) (by kernel_rfl) rfl rfl (by kernel_rfl) (by kernel_rfl) (fun K' hK' => ?_) (fun K' hK' => ?_)
    · go_simp
      refine hK' _ _ c9 ?_
      clear hK' K'
      refine wpAnyH_one (i := 4) (by kernel_rfl) rfl (by kernel_rfl) (fun K' hK' => ?_)
      go_simp
      refine (sampler1_any (w.heap.size + 1) (w.heap.size + 1 + 1) a b off n cap l q r bb W.drew HI.out.2.1 HI.out.2.2.1 HI.out.1 hn hqn hq1 r0 r1 b1 b2).mono ?_
      rintro e W3 ⟨rfl, hB3⟩
      replace hB3 : Below W.heap.size W W3 := (Below.refl _ _).drew.trans hB3
      rw [← HSV.out]
      have c9' := (hB3.cell (p := ⟨w.heap.size + 1 + 1 + 1, 0, none⟩) (show w.heap.size + 1 + 1 + 1 < W.heap.size by omega)).trans c9
      have c6' := (hB3.cell (p := ⟨w.heap.size, 0, none⟩) (show w.heap.size < W.heap.size by omega)).trans c6
      have hsz := hB3.size
      have HJ := Lib.hid (HI.out.2.2.2 W3 hB3)
      clear hB3
      refine hK' _ _ c9' ?_
      clear hK' K'
      refine wpAnyH_one (i := 5) (by kernel_rfl) rfl (by kernel_rfl) (fun K' hK' => ?_)
      go_simp
      refine hK' _ _ (cell_alloc_keep c9' _) ?_
      clear hK' K'
      refine wpAnyH_one (i := 6) (by kernel_rfl) rfl (by kernel_rfl) (fun K' hK' => ?_)
      refine wp_append_intX (.tmp 39) (.tmp 44) rfl (w.heap.size + 4) W0.heap.size v _ rfl HJ.out.2.1 W3.heap.size y rfl _ _ (blk_new W3 (.cells #[.int .i64 y] 3)) (by rw [List.length_map]; omega) (by show W0.heap.size ≤ (W3.alloc (.cells #[.int .i64 y] 3)).heap.size; simp; omega) (by omega) ?_
      intro v' w2 hO2 hU2 hg2
      obtain ⟨av, nv, cv, rfl⟩ := hO2.own.isSlice
      have HT := HJ.out.2.2 (.slice av nv cv) w2 hO2 hU2 hg2
      have e6 := blk_cell HT.1 0; have h6 := blk_free HT.1 0
      simp at e6 h6
      clear hO2 hU2 hg2
      have e9 := HT.2.1
      have HX := Lib.hid HT.2.2; clear HT
      refine hK' _ _ e9 ?_
      clear hK' K'
      refine wpAnyH_one (i := 7) (by kernel_rfl) rfl (by kernel_rfl) (fun K' hK' => ?_)
      go_simp
      refine hK' _ _ (cell_far (show w.heap.size + 1 + 1 + 1 ≠ w.heap.size by omega) e9) ?_
      clear hK' K'
      refine wpAnyH_done (by kernel_rfl) ?_ _
      gi_wp2
      refine ⟨HX.out.1.from _, HX.out.2.1, ?_, HX.out.2.2.2⟩
      rw [List.map_append, List.map_cons, List.map_nil]
      exact HX.out.2.2.1
    · go_simp
      refine (sampler1_any (w.heap.size + 1) (w.heap.size + 1 + 1) a b off n cap l q r bb W.drew HI.out.2.1 HI.out.2.2.1 HI.out.1 hn hqn hq1 r0 r1 b1 b2).mono ?_
      rintro e W3 ⟨rfl, hB3⟩
      replace hB3 : Below W.heap.size W W3 := (Below.refl _ _).drew.trans hB3
      rw [← HSV.out]
      have c9' := (hB3.cell (p := ⟨w.heap.size + 1 + 1 + 1, 0, none⟩) (show w.heap.size + 1 + 1 + 1 < W.heap.size by omega)).trans c9
      have c6' := (hB3.cell (p := ⟨w.heap.size, 0, none⟩) (show w.heap.size < W.heap.size by omega)).trans c6
      have hsz := hB3.size
      have HJ := Lib.hid (HI.out.2.2.2 W3 hB3)
      clear hB3
      refine hK' _ _ c9' ?_
      clear hK' K'
      refine wpAnyH_two (i := 0) (j := 5) (by kernel_rfl) rfl rfl (by kernel_rfl) (by kernel_rfl) (fun K' hK' => ?_) (fun K' hK' => ?_)
      · go_simp
        refine hK' _ _ c9' ?_
        clear hK' K'
        refine wpAnyH_one (i := 5) (by kernel_rfl) rfl (by kernel_rfl) (fun K' hK' => ?_)
        go_simp
        refine hK' _ _ (cell_alloc_keep c9' _) ?_
        clear hK' K'
        refine wpAnyH_one (i := 6) (by kernel_rfl) rfl (by kernel_rfl) (fun K' hK' => ?_)
        refine wp_append_intX (.tmp 39) (.tmp 44) rfl (w.heap.size + 4) W0.heap.size v _ rfl HJ.out.2.1 W3.heap.size y rfl _ _ (blk_new W3 (.cells #[.int .i64 y] 3)) (by rw [List.length_map]; omega) (by show W0.heap.size ≤ (W3.alloc (.cells #[.int .i64 y] 3)).heap.size; simp; omega) (by omega) ?_
        intro v' w2 hO2 hU2 hg2
        obtain ⟨av, nv, cv, rfl⟩ := hO2.own.isSlice
        have HT := HJ.out.2.2 (.slice av nv cv) w2 hO2 hU2 hg2
        have e6 := blk_cell HT.1 0; have h6 := blk_free HT.1 0
        simp at e6 h6
        clear hO2 hU2 hg2
        have e9 := HT.2.1
        have HX := Lib.hid HT.2.2; clear HT
        refine hK' _ _ e9 ?_
        clear hK' K'
        refine wpAnyH_one (i := 7) (by kernel_rfl) rfl (by kernel_rfl) (fun K' hK' => ?_)
        go_simp
        refine hK' _ _ (cell_far (show w.heap.size + 1 + 1 + 1 ≠ w.heap.size by omega) e9) ?_
        clear hK' K'
        refine wpAnyH_done (by kernel_rfl) ?_ _
        gi_wp2
        refine ⟨HX.out.1.from _, HX.out.2.1, ?_, HX.out.2.2.2⟩
        rw [List.map_append, List.map_cons, List.map_nil]
        exact HX.out.2.2.1
      · go_simp
        refine hK' _ _ (cell_alloc_keep c9' _) ?_
        clear hK' K'
        have d6 := cell_alloc_keep c6' (.cells #[.int .i64 y] 3)
        refine wpAnyH_one (i := 0) (by kernel_rfl) rfl (by kernel_rfl) (fun K' hK' => ?_)
        go_simp
        refine hK' _ _ (cell_alloc_keep c9' _) ?_
        clear hK' K'
        refine wpAnyH_one (i := 6) (by kernel_rfl) rfl (by kernel_rfl) (fun K' hK' => ?_)
        refine wp_append_intX (.tmp 39) (.tmp 44) rfl (w.heap.size + 4) W0.heap.size v _ rfl HJ.out.2.1 W3.heap.size y rfl _ _ (blk_new W3 (.cells #[.int .i64 y] 3)) (by rw [List.length_map]; omega) (by show W0.heap.size ≤ (W3.alloc (.cells #[.int .i64 y] 3)).heap.size; simp; omega) (by omega) ?_
        intro v' w2 hO2 hU2 hg2
        obtain ⟨av, nv, cv, rfl⟩ := hO2.own.isSlice
        have HT := HJ.out.2.2 (.slice av nv cv) w2 hO2 hU2 hg2
        have e6 := blk_cell HT.1 0; have h6 := blk_free HT.1 0
        simp at e6 h6
        clear hO2 hU2 hg2
        have e9 := HT.2.1
        have HX := Lib.hid HT.2.2; clear HT
        refine hK' _ _ e9 ?_
        clear hK' K'
        refine wpAnyH_one (i := 7) (by kernel_rfl) rfl (by kernel_rfl) (fun K' hK' => ?_)
        go_simp
        refine hK' _ _ (cell_far (show w.heap.size + 1 + 1 + 1 ≠ w.heap.size by omega) e9) ?_
        clear hK' K'
        refine wpAnyH_done (by kernel_rfl) ?_ _
        gi_wp2
        refine ⟨HX.out.1.from _, HX.out.2.1, ?_, HX.out.2.2.2⟩
        rw [List.map_append, List.map_cons, List.map_nil]
        exact HX.out.2.2.1
  case done =>
    rintro D xs W hD hxs ⟨hI, hB⟩ hDf
    rw [conv_map hxs] at hI
    obtain ⟨i1, i2, i3, ⟨v, i0', iO⟩, ibb⟩ := hI
    obtain ⟨av, nv, cv, rfl⟩ := iO.own.isSlice
    have c6 := blk_cell i0' 0; have f6 := blk_free i0' 0
    simp at c6 f6
    have HI := Lib.hid (show _ ∧ _ from ⟨i0', iO⟩)
    clear i1 i2 i3 i0' iO
    rename_i K hK
    refine hK _ _ ?_
    go_wp2_with fail
    have hDn : D ≠ w.heap.size := by omega
    have hD2 : (W.setCell ⟨w.heap.size, 0, none⟩ (.slice av nv cv)).heap[D]? = some (.deferred (some [])) := (Below.heap_setCell _ _ _ _ hDn).trans hDf
    have tp : ((W.setCell ⟨w.heap.size, 0, none⟩ (.slice av nv cv)).putObj D (.deferred none)).cell? ⟨w.heap.size, 0, none⟩ = some (.slice av nv cv) := blk_cell ((World.putObj_heap_other (Ne.symm hDn)).trans (one_setCell HI.out.1)) 0
    have hI2 := (((HI.out.2.setCell (show w.heap.size < w.heap.size + 4 by omega) (u := .slice av nv cv)).grownNC (grownBy_putObj' _ D (.deferred none)) (fun r e => by cases e; exact ⟨_, hD2, rfl⟩)).own).mono (show w.heap.size ≤ w.heap.size + 4 by omega)
    have hB2 := (hB.setCell (p := ⟨w.heap.size, 0, none⟩) (Nat.le_refl _) (.slice av nv cv)).trans (belowK_b (w := w) (Nat.le_refl _) _ D _ (.deferred none) (by omega) hD2 rfl rfl)
    have HZ := Lib.hid (show _ ∧ _ from ⟨hI2, hB2⟩)
    clear hI2 hB2
    refine ⟨by simp, .inl ⟨_, _, rfl, run_takeDeferred hD2, ?_⟩⟩
    exact ⟨.tuple #[.slice av nv cv, .int .i64 0], by simp [results, Try.results15, go_sem, tp], _, rfl, HZ.out.1, HZ.out.2⟩
  case stop =>
    rintro D cc pre W hD _ ⟨hF, _⟩ _
    exact hF.elim
end Go.Proofs.Ytipjogicjgkgjaa
