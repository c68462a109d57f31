/- The contracts of insert and Add (layer 42). -/
import Derived.Test.YtjedpemjifcciaaCalIns
namespace Go.Proofs.Ytjedpemjifcciaa
open Go.ChangeShapes Go.WideShapes Go.ChangeAt Go.RowKit Go.Sort Go.Shelf

theorem RsO.block {w : World} {B g n c : Nat} {l : List Rt} (h : RsO w B (.slice (some ⟨g, 0, none⟩) n c) l) : B ≤ g ∧ g < w.heap.size := by
  rcases h.2 with ⟨h0, _⟩ | ⟨g', cap', cur, h', hb, hg, _⟩
  · cases h0
  · simp only [Value.slice.injEq, Option.some.injEq, Addr.mk.injEq] at h'
    obtain ⟨⟨rfl, -⟩, -, -⟩ := h'
    exact ⟨hb, (Array.getElem?_eq_some_iff.1 hg).1⟩
def insR (l : List Rt) (r : Rt) (i : Nat) : List Rt := l.take i ++ [r] ++ l.drop i
theorem insR_len (l : List Rt) (r : Rt) (i : Nat) (h : i ≤ l.length) : (insR l r i).length = l.length + 1 := by unfold insR; simp; omega
theorem sins_any (v : Value) (l : List Rt) (r : Rt) (i q B : Nat) (w : World) (hO : RsO w B v l) (hl : l.length ≤ 256) (hi : i ≤ l.length) (hB : B ≤ w.heap.size) (hqv : ∀ g n c, v = .slice (some ⟨g, 0, none⟩) n c → q ≠ g) (hq : w.heap[q]? = some (.cells (encR r).toArray 24 (0, 0))) :
    Calls Try.prog 34 #[v, .int .i64 i, .slice (some ⟨q, 0, none⟩) 1 1] w (OwnP B (insR l r i) w) := by
  unfold insR
  rcases Nat.eq_or_lt_of_le hi with rfl | hi
  · rw [List.take_length, List.drop_length, List.append_nil]
    exact sins_end v l r q B w hO hl hB _ _ hq
  · obtain ⟨g, c, rfl, hg⟩ := hO.inBlock rfl (by omega)
    obtain ⟨_, _, _, hv, _, _, _, hlc, _⟩ := hO.s
    simp only [Value.slice.injEq] at hv
    obtain ⟨-, -, rfl⟩ := hv
    by_cases hc : c = l.length
    · rw [hc] at hO ⊢
      exact sins_grow g l.length i l r q B w hO rfl hi hl hB _ _ hq
    · exact sins_shift g l.length c i l r q B w hO rfl hi (by omega) hl (hqv g _ _ rfl) hq

def InsertP (l : List Rt) (r : Rt) (B : Nat) (w : World) (e : Ending) (w' : World) : Prop := ∃ i v', Pos l (ky r) i ∧ e = .returned (.tuple #[v', .bool (!hasK l (ky r) i)]) ∧ RsO w' B v' (insR l r i) ∧ Below B w w'

set_option maxRecDepth 100000 in
set_option maxHeartbeats 4000000 in
theorem insert_any (a : Option Addr) (n cap b off : Nat) (l : List Rt) (r : Rt) (w : World) (h : Rs w a n b off l) (hn : n ≤ 256) (hz : a = none → cap = 0) (hok : okTo l l.length) :
    Calls Try.prog 21 #[.slice a n cap, vR r, vF 22, vF 23] w (InsertP l r w.heap.size w) := by
  have HM := Lib.hid (show _ ∧ _ from ⟨h, hok⟩)
  have HZ := Lib.hid (show _ ∧ _ from ⟨hz, h.1⟩)
  clear h hok hz
  obtain ⟨r0, r1, r2, r3, r4⟩ := r
  dsimp only [vR]
  obtain ⟨W, hW⟩ : ∃ W, W = ((w.alloc (.cells #[.int .i64 r0, .int .i64 r1, .int .i64 r2, .int .i64 r3, .int .i64 r4] 24)).alloc (.cells #[vF 22] 50)).alloc (.cells #[vF 23] 51) := ⟨_, rfl⟩
  have hB : Below w.heap.size w W := by rw [hW]; go_grown
  have g1 : W.heap[w.heap.size]? = some (.cells #[.int .i64 r0, .int .i64 r1, .int .i64 r2, .int .i64 r3, .int .i64 r4] 24 (0, 0)) := by rw [hW]; exact blk_alloc (blk_alloc (blk_new _ _) _) _
  have g2 : W.heap[w.heap.size + 1]? = some (.cells #[vF 22] 50 (0, 0)) := by
    rw [hW]
    have := blk_alloc (blk_new (w.alloc (.cells #[.int .i64 r0, .int .i64 r1, .int .i64 r2, .int .i64 r3, .int .i64 r4] 24)) (.cells #[vF 22] 50)) (.cells #[vF 23] 51)
    rwa [World.size_alloc] at this
  have g3 : W.heap[w.heap.size + 1 + 1]? = some (.cells #[vF 23] 51 (0, 0)) := by
    rw [hW]
    have := blk_new ((w.alloc (.cells #[.int .i64 r0, .int .i64 r1, .int .i64 r2, .int .i64 r3, .int .i64 r4] 24)).alloc (.cells #[vF 22] 50)) (.cells #[vF 23] 51)
    rwa [World.size_alloc, World.size_alloc] at this
  have H := Lib.hid (show _ ∧ _ ∧ _ ∧ _ from ⟨hB, g1, g2, g3⟩)
  have d0 := blk_cell g1 0; have d1 := blk_cell g1 1; have d2 := blk_cell g1 2; have d3 := blk_cell g1 3; have d4 := blk_cell g1 4
  have e0 := blk_cell g2 0
  simp at d0 d1 d2 d3 d4 e0
  have HW := Lib.hid hW
  clear hB g1 g2 g3
  go_enter Try.func21, Try.ntmps21
  go_upto_region 1 with fail
  rw [← hW]
  clear hW
  go_wp2_with fail
  clear d0 d1 d2 d3 d4 e0
  refine (keyOf_any (r0, r1, r2, r3, r4) W).mono ?_
  rintro e W1 ⟨rfl, hb1⟩
  have H1 := Lib.hid (show _ ∧ _ ∧ _ ∧ _ from ⟨below_after H.out.1 hb1 H.out.1.size, blk_below H.out.2.1 hb1 (Array.getElem?_eq_some_iff.1 H.out.2.1).1, blk_below H.out.2.2.1 hb1 (Array.getElem?_eq_some_iff.1 H.out.2.2.1).1, blk_below H.out.2.2.2 hb1 (Array.getElem?_eq_some_iff.1 H.out.2.2.2).1⟩)
  clear hb1
  go_wp2_with fail
  refine (bin_any a n cap b off l (ky (r0, r1, r2, r3, r4)) (w.heap.size + 1 + 1) (w.heap.size + 1) W1 (HM.out.1.grown H1.out.1) hn HM.out.2 H1.out.2.2.2 H1.out.2.2.1).mono ?_
  rintro e W2 ⟨i, hpos, rfl, hb2⟩
  have H2 := Lib.hid (show _ ∧ _ ∧ _ from ⟨below_after H1.out.1 hb2 H1.out.1.size, blk_below H1.out.2.1 hb2 (Array.getElem?_eq_some_iff.1 H1.out.2.1).1, hpos⟩)
  clear hb2
  go_wp2_with fail
  refine wp_region_from 0 1 (fun w' => Below W2.heap.size W2 w') (by kernel_rfl) (by kernel_rfl) (by decide) (by kernel_rfl) ((Below.refl _ _).drew) ?_
  simp only [List.drop_zero, List.take_succ_cons, List.take_zero]
  refine wpHeld_cons (.slice a n cap) (by kernel_rfl) ?_ ?_
  · intro w' s
    try go_simp
  refine wpHeld_nil ?_
  go_simp
  refine wpAnyH_from (fuel := 7) 2 2 (fun _ _ _ _ _ h => h) (by kernel_rfl) (by decide) (by kernel_rfl) ((Below.refl _ _).drew) ?_
  simp only [List.drop_succ_cons, List.drop_zero, List.take_succ_cons, List.take_zero]
  refine wpHeld_cons (.int .i64 i) (by kernel_rfl) ?_ ?_
  · intro w' s
    try go_simp
  refine wpHeld_cons (.agg #[.int .i64 r0, .int .i64 r1, .int .i64 r2, .int .i64 r3, .int .i64 r4]) (by kernel_rfl) ?_ ?_
  · intro w' s
    have y0 := (blk_cell (blk_below H2.out.2.1 s (Array.getElem?_eq_some_iff.1 H2.out.2.1).1) 0)
    have y1 := (blk_cell (blk_below H2.out.2.1 s (Array.getElem?_eq_some_iff.1 H2.out.2.1).1) 1)
    have y2 := (blk_cell (blk_below H2.out.2.1 s (Array.getElem?_eq_some_iff.1 H2.out.2.1).1) 2)
    have y3 := (blk_cell (blk_below H2.out.2.1 s (Array.getElem?_eq_some_iff.1 H2.out.2.1).1) 3)
    have y4 := (blk_cell (blk_below H2.out.2.1 s (Array.getElem?_eq_some_iff.1 H2.out.2.1).1) 4)
    simp at y0 y1 y2 y3 y4
    try go_simp
  refine wpHeld_nil ?_
  go_simp
  refine wpAnyH_from (fuel := 5) 6 2 (fun _ _ _ _ _ h => h) (by kernel_rfl) (by decide) (by kernel_rfl) ((Below.refl _ _).drew) ?_
  simp only [List.drop_succ_cons, List.drop_zero, List.take_succ_cons, List.take_zero]
  refine wpHeld_cons (.bool (hasK l (ky (r0, r1, r2, r3, r4)) i)) (by kernel_rfl) ?_ ?_
  · intro w' s
    try go_simp
  refine wpHeld_cons (.bool (!hasK l (ky (r0, r1, r2, r3, r4)) i)) (by kernel_rfl) ?_ ?_
  · intro w' s
    try go_simp
  refine wpHeld_nil ?_
  go_simp
  refine wpAnyH_two (i := 1) (j := 4) (by kernel_rfl) rfl rfl (by kernel_rfl) (by kernel_rfl) (fun K' hK' => ?_) (fun K' hK' => ?_)
  · go_simp
    refine (clone_any a n cap b off l W2.drew (HM.out.1.grown (H2.out.1.drew)) (by omega) HZ.out.1).mono ?_
    rintro e W3 ⟨v, rfl, hO, hb⟩
    have H3 := Lib.hid (show RsO W3 W2.heap.size v l ∧ Below W2.heap.size W2 W3 from ⟨hO, (Below.refl _ _).drew.trans hb⟩)
    clear hO hb
    refine hK' _ _ (H3.out.2) ?_
    clear hK' K'
    go_simp
    refine wpAnyH_one (i := 4) (by kernel_rfl) rfl (by kernel_rfl) (fun K' hK' => ?_)
    go_simp
    have H4 := Lib.hid (show RsO (W3.alloc (.cells #[.int .i64 r0, .int .i64 r1, .int .i64 r2, .int .i64 r3, .int .i64 r4] 24)) W2.heap.size v l ∧ Below W2.heap.size W2 (W3.alloc (.cells #[.int .i64 r0, .int .i64 r1, .int .i64 r2, .int .i64 r3, .int .i64 r4] 24)) ∧ (W3.alloc (.cells #[.int .i64 r0, .int .i64 r1, .int .i64 r2, .int .i64 r3, .int .i64 r4] 24)).heap[W3.heap.size]? = some (.cells (encR (r0, r1, r2, r3, r4)).toArray 24 (0, 0)) from ⟨H3.out.1.alloc _, H3.out.2.alloc H3.out.2.size _, blk_new _ _⟩)
    generalize W3.alloc (.cells #[.int .i64 r0, .int .i64 r1, .int .i64 r2, .int .i64 r3, .int .i64 r4] 24) = W4 at *
    refine hK' _ _ (H4.out.2.1) ?_
    clear hK' K'
    go_simp
    refine wpAnyH_one (i := 5) (by kernel_rfl) rfl (by kernel_rfl) (fun K' hK' => ?_)
    go_simp
    refine (sins_any v l (r0, r1, r2, r3, r4) i W3.heap.size W2.heap.size W4 H4.out.1 (by rw [HZ.out.2]; omega) H2.out.2.2.1 H4.out.2.1.size (fun g n' c' e => by have := (RsO.block (e ▸ H3.out.1)).2; omega) H4.out.2.2).mono ?_
    rintro e W5 ⟨v5, rfl, hO5, hb5⟩
    have H5 := Lib.hid (show _ ∧ _ from ⟨hO5, H4.out.2.1.trans hb5⟩)
    clear hO5 hb5
    refine hK' _ _ (H5.out.2) ?_
    clear hK' K'
    go_simp
    refine wpAnyH_one (i := 8) (by kernel_rfl) rfl (by kernel_rfl) (fun K' hK' => ?_)
    go_simp
    refine hK' _ _ (H5.out.2) ?_
    clear hK' K'
    go_simp
    refine wpAnyH_one (i := 9) (by kernel_rfl) rfl (by kernel_rfl) (fun K' hK' => ?_)
    go_simp
    refine hK' _ _ (H5.out.2) ?_
    clear hK' K'
    go_simp
    refine wpAnyH_done (by kernel_rfl) ?_ _
    refine NoPanic.normal ?_
    go_simp
    go_wp2
    exact bodyPost_ret (v := .tuple #[v5, .bool (!hasK l (ky (r0, r1, r2, r3, r4)) i)]) (by simp [results, Try.results21, go_sem]) rfl ⟨i, v5, H2.out.2.2, rfl, H5.out.1.mono H2.out.1.size, below_after H2.out.1 H5.out.2 H2.out.1.size⟩
  · go_simp
    have H3 := Lib.hid (show Below W2.heap.size W2 ((W2.alloc (.cells #[.int .i64 r0, .int .i64 r1, .int .i64 r2, .int .i64 r3, .int .i64 r4] 24)).drew) ∧ ((W2.alloc (.cells #[.int .i64 r0, .int .i64 r1, .int .i64 r2, .int .i64 r3, .int .i64 r4] 24)).drew).heap[W2.heap.size]? = some (.cells (encR (r0, r1, r2, r3, r4)).toArray 24 (0, 0)) ∧ ((W2.alloc (.cells #[.int .i64 r0, .int .i64 r1, .int .i64 r2, .int .i64 r3, .int .i64 r4] 24)).drew).heap.size = W2.heap.size + 1 from ⟨((Below.refl _ _).alloc (Nat.le_refl _) _).drew, blk_drew (blk_new W2 _), by simp⟩)
    generalize (W2.alloc (.cells #[.int .i64 r0, .int .i64 r1, .int .i64 r2, .int .i64 r3, .int .i64 r4] 24)).drew = W3 at *
    refine hK' _ _ (H3.out.1) ?_
    clear hK' K'
    go_simp
    refine wpAnyH_one (i := 1) (by kernel_rfl) rfl (by kernel_rfl) (fun K' hK' => ?_)
    go_simp
    refine (clone_any a n cap b off l W3 (HM.out.1.grown (below_after H2.out.1 H3.out.1 H2.out.1.size)) (by omega) HZ.out.1).mono ?_
    rintro e W4 ⟨v, rfl, hO, hb⟩
    have H4 := Lib.hid (show RsO W4 W3.heap.size v l ∧ Below W2.heap.size W2 W4 ∧ W4.heap[W2.heap.size]? = some (.cells (encR (r0, r1, r2, r3, r4)).toArray 24 (0, 0)) from ⟨hO, below_after H3.out.1 hb H3.out.1.size, blk_below H3.out.2.1 hb (Array.getElem?_eq_some_iff.1 H3.out.2.1).1⟩)
    clear hO hb
    refine hK' _ _ (H4.out.2.1) ?_
    clear hK' K'
    go_simp
    refine wpAnyH_one (i := 5) (by kernel_rfl) rfl (by kernel_rfl) (fun K' hK' => ?_)
    go_simp
    refine (sins_any v l (r0, r1, r2, r3, r4) i W2.heap.size W2.heap.size W4 (H4.out.1.mono H3.out.1.size) (by rw [HZ.out.2]; omega) H2.out.2.2.1 H4.out.2.1.size (fun g n' c' e => by have := (RsO.block (e ▸ H4.out.1)).1; have := H3.out.2.2; omega) H4.out.2.2).mono ?_
    rintro e W5 ⟨v5, rfl, hO5, hb5⟩
    have H5 := Lib.hid (show _ ∧ _ from ⟨hO5, H4.out.2.1.trans hb5⟩)
    clear hO5 hb5
    refine hK' _ _ (H5.out.2) ?_
    clear hK' K'
    go_simp
    refine wpAnyH_one (i := 8) (by kernel_rfl) rfl (by kernel_rfl) (fun K' hK' => ?_)
    go_simp
    refine hK' _ _ (H5.out.2) ?_
    clear hK' K'
    go_simp
    refine wpAnyH_one (i := 9) (by kernel_rfl) rfl (by kernel_rfl) (fun K' hK' => ?_)
    go_simp
    refine hK' _ _ (H5.out.2) ?_
    clear hK' K'
    go_simp
    refine wpAnyH_done (by kernel_rfl) ?_ _
    refine NoPanic.normal ?_
    go_simp
    go_wp2
    exact bodyPost_ret (v := .tuple #[v5, .bool (!hasK l (ky (r0, r1, r2, r3, r4)) i)]) (by simp [results, Try.results21, go_sem]) rfl ⟨i, v5, H2.out.2.2, rfl, H5.out.1.mono H2.out.1.size, below_after H2.out.1 H5.out.2 H2.out.1.size⟩
end Go.Proofs.Ytjedpemjifcciaa
