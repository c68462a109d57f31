/- slices.Insert of a record in the midst of a list (layer 42). -/
import Derived.Test.YtjedpemjifcciaaCalClone
import Derived.Deep.Cut
import Derived.StillTailTactics
namespace Go.Proofs.Ytjedpemjifcciaa
open Go.ChangeShapes Go.WideShapes Go.ChangeAt Go.RowKit Go.Sort

theorem encLK_takeR (l : List Rt) (k : Nat) (h : k ≤ l.length) : (encLR l).take (k * 5) = encLR (l.take k) := by
  have e : encLR l = encLR (l.take k) ++ encLR (l.drop k) := by rw [← encLR_app, List.take_append_drop]
  rw [e, List.take_append_of_le_length (by rw [encLR_len]; simp; omega), List.take_of_length_le (by rw [encLR_len]; simp; omega)]
theorem encLK_dropR (l : List Rt) (k : Nat) (h : k ≤ l.length) : (encLR l).drop (k * 5) = encLR (l.drop k) := by
  have e : encLR l = encLR (l.take k) ++ encLR (l.drop k) := by rw [← encLR_app, List.take_append_drop]
  rw [e, List.drop_append_of_le_length (by rw [encLR_len]; simp; omega), List.drop_eq_nil_of_le (by rw [encLR_len]; simp; omega), List.nil_append]
theorem encR_len (r : Rt) : (encR r).length = 5 := rfl
theorem zeroCells_size (z : Array Value) (n : Nat) : (Builtin.zeroCells z n).size = n * z.size := by simp [Builtin.zeroCells]
theorem info_R_size : (Try.prog.info? 24).map (·.size) = some 5 := by kernel_rfl
/-- A row whose beginning is known is a list of one's own. -/
theorem RsO.of_row {w : World} {B g n c : Nat} {l : List Rt} {cur : List Value} (hg : w.heap[g]? = some (.cells cur.toArray 24 (0, 0))) (hB : B ≤ g) (hn : l.length = n) (hnc : n ≤ c) (hc : c ≤ maxLen) (hs : cur.length = c * 5) (ht : cur.take (n * 5) = encLR l) :
    RsO w B (.slice (some ⟨g, 0, none⟩) n c) l := by
  subst hn
  exact ⟨encLR_len l, .inr ⟨g, c, cur.toArray, rfl, hB, hg, hnc, hc, by simpa using hs, by simpa using ht⟩⟩

theorem src_of_block {w : World} {q : Nat} {xs : List Value} {tb : TypeId} {fr : Nat × Nat} (h : w.heap[q]? = some (.cells xs.toArray tb fr)) : ∀ j v, xs[j]? = some v → w.cell? ((⟨q, 0, none⟩ : Addr).add j) = some v := fun j v hj => by
  rw [Addr.add_lit, Nat.zero_add, blk_cell h j]
  simpa using hj
theorem encR_one (r : Rt) : ∀ v ∈ encR r, v.oneCell' = true := fun u hu => encLR_cells [r] u (by rw [encLR_one]; exact hu)

set_option maxRecDepth 100000 in
set_option maxHeartbeats 4000000 in
theorem sins_grow (g n i : Nat) (l : List Rt) (r : Rt) (q B : Nat) (w : World) (hO : RsO w B (.slice (some ⟨g, 0, none⟩) n n) l) (hl : l.length = n) (hi : i < n) (hn : n ≤ 256) (hB : B ≤ w.heap.size) (tb : TypeId) (fr : Nat × Nat) (hq : w.heap[q]? = some (.cells (encR r).toArray tb fr)) :
    Calls Try.prog 34 #[.slice (some ⟨g, 0, none⟩) n n, .int .i64 i, .slice (some ⟨q, 0, none⟩) 1 1] w (OwnP B (l.take i ++ [r] ++ l.drop i) w) := by
  obtain ⟨_, bb, _, hv, hR, -, -, hlc, hcm⟩ := hO.s
  simp only [Value.slice.injEq] at hv
  obtain ⟨rfl, -, rfl⟩ := hv
  obtain rfl : g = bb := by
    have := (hR.2.1 (by omega)).1
    simp at this
    exact this
  obtain ⟨i0, hi0, hz0, hzs, hzb⟩ := info_parts info_R
  have hgw := (hR.2.1 (by omega)).2
  have hqw := (Array.getElem?_eq_some_iff.1 hq).1
  have hR' := hR
  have henc := hR'.encs
  have hold : (Builtin.firstCells i0.size i (.slice (some ⟨g, 0, none⟩) i n)).run Try.prog w.drew = .ok (encLR (l.take i)).toArray w.drew := by
    rw [hzs]
    refine run_firstCells_some w.drew 5 i ⟨g, 0, none⟩ i n (encLR (l.take i)) (by rw [encLR_len]; simp; omega) (fun j v hj => ?_)
    rw [Addr.add_lit]
    rw [← encLK_takeR l i (by omega), List.getElem?_take] at hj
    split at hj
    · exact henc j v hj
    · cases hj
  obtain ⟨k, hk⟩ : ∃ k, k = n + 1 - i := ⟨_, rfl⟩
  have hrz : ∀ ty, (Builtin.append_ #[22, 3] ty #[.slice (some ⟨g, 0, none⟩) i n, .int .i64 ((n : Int) + 1 - (i : Int))]).run Try.prog w =
      .ok (.slice (some ⟨w.heap.size, 0, none⟩) (n + 1) (grownCap w (n + 1) n 24)) (w.drew.alloc (.cells ((encLR (l.take i)).toArray ++ Builtin.zeroCells (Value.agg #[.int .i64 0, .int .i64 0, .int .i64 0, .int .i64 0, .int .i64 0]).cells k ++ Builtin.zeroCells (Value.agg #[.int .i64 0, .int .i64 0, .int .i64 0, .int .i64 0, .int .i64 0]).cells (grownCap w (n + 1) n 24 - (n + 1))) 24)) := fun ty => by
    have h := Lib.run_append_grow_zeros w 22 3 ty 24 i0 _ .i64 .i64 Try.underlying22 Try.underlying3 hi0 hz0 (some ⟨g, 0, none⟩) i n (encLR (l.take i)) hold k (by omega) (by omega) (by omega) (by omega) (by rw [hzb]; omega) (by rw [hzb, show i + k = n + 1 by omega]; exact growslice_fits (by omega) (by omega))
    rw [show i + k = n + 1 by omega] at h
    rw [show (n : Int) + 1 - (i : Int) = (k : Int) by omega]
    exact h
  obtain ⟨G, hG⟩ : ∃ G, G = grownCap w (n + 1) n 24 := ⟨_, rfl⟩
  rw [← hG] at hrz
  have hGn : n + 1 ≤ G := by rw [hG]; exact grownCap_ge w _ _ _
  have hGm : G ≤ maxLen := by rw [hG]; exact grownCap_le_maxLen w (n + 1) n _ (by unfold maxLen; omega)
  obtain ⟨ROW, hROW⟩ : ∃ ROW : List Value, ROW = ((encLR (l.take i)).toArray ++ Builtin.zeroCells (Value.agg #[.int .i64 0, .int .i64 0, .int .i64 0, .int .i64 0, .int .i64 0]).cells k ++ Builtin.zeroCells (Value.agg #[.int .i64 0, .int .i64 0, .int .i64 0, .int .i64 0, .int .i64 0]).cells (G - (n + 1))).toList := ⟨_, rfl⟩
  have hRl : ROW.length = G * 5 := by
    rw [hROW, Array.length_toList, Array.size_append, Array.size_append, zeroCells_size, zeroCells_size]
    simp [Value.cells, encLR_len]
    omega
  have hRt : ROW.take (i * 5) = encLR (l.take i) := by
    rw [hROW]
    simp only [Array.toList_append]
    rw [List.append_assoc, List.take_append_of_le_length (by simp [encLR_len]; omega), List.take_of_length_le (by simp [encLR_len]; omega)]
  have hRa : (((encLR (l.take i)).toArray ++ Builtin.zeroCells (Value.agg #[.int .i64 0, .int .i64 0, .int .i64 0, .int .i64 0, .int .i64 0]).cells k ++ Builtin.zeroCells (Value.agg #[.int .i64 0, .int .i64 0, .int .i64 0, .int .i64 0, .int .i64 0]).cells (G - (n + 1)))) = ROW.toArray := by rw [hROW]
  rw [hRa] at hrz
  obtain ⟨W1, hW1⟩ : ∃ W1, W1 = w.drew.alloc (.cells ROW.toArray 24) := ⟨_, rfl⟩
  rw [← hW1] at hrz
  have g1 : W1.heap[w.heap.size]? = some (.cells ROW.toArray 24 (0, 0)) := by rw [hW1]; exact blk_new w.drew _
  have o1 : ∀ b, b < w.heap.size → W1.heap[b]? = w.heap[b]? := fun b hb => by rw [hW1]; exact Below.heap_alloc w.drew _ b hb
  have hb1 : Below w.heap.size w W1 := by rw [hW1]; exact ((Below.refl _ _).drew).alloc (Nat.le_refl _) _
  have q1 := (o1 q hqw).trans hq
  have c1 : ∀ b o, b < w.heap.size → W1.cell? ⟨b, o, none⟩ = w.cell? ⟨b, o, none⟩ := fun b o h => hb1.cell (p := ⟨b, o, none⟩) h
  have H := Lib.hid (show _ ∧ _ ∧ _ ∧ _ ∧ _ ∧ _ ∧ _ ∧ _ from ⟨g1, q1, henc, hRl, hRt, hGm, hb1, c1⟩)
  clear hROW hRa hW1 hG hold henc hR hR' hq hO hcm hlc g1 q1 hRl hRt hGm hb1 c1 o1 hz0 hzs hzb hi0
  have hGi : ¬ (G = i) := by omega
  have hGi1 : ¬ (G = i + 1) := by omega
  have hni : ¬ (n = i) := by omega
  have e1 : ((i : Int) == (n : Int)) = false := by simp; omega
  have e2 : ((n : Int) + 1 > (n : Int)) := by omega
  have hw1 : IntKind.i64.wrap ((n : Int) + 1) = (n : Int) + 1 := by rw [IntKind.wrap_i64]; omega
  have hw2 : IntKind.i64.wrap ((i : Int) + 1) = (i : Int) + 1 := by rw [IntKind.wrap_i64]; omega
  have hw3 : IntKind.i64.wrap ((n : Int) + 1 - (i : Int)) = (n : Int) + 1 - (i : Int) := by rw [IntKind.wrap_i64]; omega
  have HL := Lib.hid hl
  clear hl hk
  go_enter Try.func34, Try.ntmps34
  go_upto_region 10 with (at_builtin; refine Lib.wpList_append_run _ rfl _ _ _ _ rfl _ _ rfl rfl _ _ (hrz _) ?_)
  go_wp2_with (first | (with_reducible refine halt_at (o := ⟨some 45, _, _, _, _, _⟩) ?_))
  unfold Halt
  refine wpList_copyN rfl (.tmp 43) (.tmp 44) _ _ rfl 24 Try.underlying22 5 info_R_size w.heap.size (i * 5) (n + 1 - i) (G - i) ⟨q, 0, none⟩ 1 1 (by rfl) (by rfl) ROW 24 H.out.1 (encR r) 1 (Nat.min_eq_left (by omega)).symm rfl (src_of_block H.out.2.1) (by rw [H.out.2.2.2.1, encR_len]; omega) (encR_one r) ?_
  intro W2 h2
  have hgn : g ≠ w.heap.size := by omega
  have hs1 : w.heap.size < W1.heap.size := (Array.getElem?_eq_some_iff.1 H.out.1).1
  have hs2 : W2.heap.size = W1.heap.size := h2.out.2.2.2
  have c2 : ∀ j, W2.cell? ⟨g, j, none⟩ = w.cell? ⟨g, j, none⟩ := fun j => (World.cell?_of_block (a := ⟨g, j, none⟩) (h2.out.2.1 g hgn)).trans (H.out.2.2.2.2.2.2.2 g j hgw)
  have C2 := Lib.hid (show _ ∧ _ from ⟨c2, hs2⟩)
  have hs3 : w.heap.size < W2.heap.size := by omega
  clear c2 hs2
  go_simp
  go_wp2
  refine wp_region_grow_tail 8 (by kernel_rfl) (by kernel_rfl) ?_
  simp only [List.take_succ_cons, List.take_zero, List.drop_succ_cons, List.drop_zero]
  repeat (go_big_quiet_step ((fail)))
  refine wpQuiet_nil ?_
  intro WQ hq'
  have hq := of_regrown hq'
  clear hq'
  refine wpList_copyN rfl (.tmp 50) (.tmp 53) _ _ rfl 24 Try.underlying22 5 info_R_size w.heap.size ((i + 1) * 5) (n - i) (G - (i + 1)) ⟨g, i * 5, none⟩ (n - i) (n - i) (by rfl) (by rfl) _ 24 (blk_below h2.out.1 hq hs3) (encLR (l.drop i)) (n - i) (Nat.min_self _).symm (by rw [encLR_len, List.length_drop, HL.out]) (fun j v hj => by
    rw [Addr.add_lit]
    refine (hq.cell (p := ⟨g, i * 5 + j, none⟩) (show g < W2.heap.size by omega)).trans ?_
    rw [C2.out.1]
    have hc := H.out.2.2.1 (i * 5 + j) v
    rw [Nat.zero_add] at hc
    refine hc ?_
    rw [← encLK_dropR l i (by rw [HL.out]; omega), List.getElem?_drop] at hj
    exact hj) (by rw [length_splice _ _ _ (by rw [H.out.2.2.2.1, encR_len]; omega), H.out.2.2.2.1, encLR_len, List.length_drop, HL.out]; omega) (encLR_cells _) ?_
  intro W3 h3
  go_wp2
  have e5 : (i + 1) * 5 = i * 5 + (encR r).length := by rw [encR_len]; omega
  have hrow := h3.out.1
  rw [e5] at hrow
  have hln : (encLR (l.drop i)).length = (n - i) * 5 := by rw [encLR_len, List.length_drop, HL.out]
  have hfin := RsO.of_row (B := B) (n := n + 1) (c := G) (l := l.take i ++ [r] ++ l.drop i) hrow hB (by simp [HL.out]; omega) hGn H.out.2.2.2.2.2.1 (by rw [length_splice _ _ _ (by rw [length_splice _ _ _ (by rw [H.out.2.2.2.1, encR_len]; omega), H.out.2.2.2.1, encR_len, hln]; omega), length_splice _ _ _ (by rw [H.out.2.2.2.1, encR_len]; omega), H.out.2.2.2.1]) (by
    have hs := splice_up ROW (encR r) (encLR (l.drop i)) (i * 5) (by rw [H.out.2.2.2.1, encR_len, hln]; omega)
    rw [show (n + 1) * 5 = i * 5 + (encR r).length + (encLR (l.drop i)).length by rw [encR_len, hln]; omega, hs, H.out.2.2.2.2.1, encLR_app, encLR_app, encLR_one, List.append_assoc])
  have hb3 : Below B w W3 := (h3.out.2.2.1 B w (below_after (h2.out.2.2.1 B w (H.out.2.2.2.2.2.2.1.mono hB) hB) hq (by omega)) hB)
  exact bodyPost_ret (v := .slice (some ⟨w.heap.size, 0, none⟩) (n + 1) G) (by simp [results, Try.results34, go_sem]) rfl ⟨_, rfl, hfin, hb3⟩

set_option maxRecDepth 100000 in
set_option maxHeartbeats 4000000 in
theorem sins_shift (g n c i : Nat) (l : List Rt) (r : Rt) (q B : Nat) (w : World) (hO : RsO w B (.slice (some ⟨g, 0, none⟩) n c) l) (hl : l.length = n) (hi : i < n) (hnc : n + 1 ≤ c) (hn : n ≤ 256) (hqg : q ≠ g) (hq : w.heap[q]? = some (.cells (encR r).toArray 24 (0, 0))) :
    Calls Try.prog 34 #[.slice (some ⟨g, 0, none⟩) n c, .int .i64 i, .slice (some ⟨q, 0, none⟩) 1 1] w (OwnP B (l.take i ++ [r] ++ l.drop i) w) := by
  obtain ⟨_, bb, _, hv, hR, -, -, hlc, hcm⟩ := hO.s
  simp only [Value.slice.injEq] at hv
  obtain ⟨rfl, -, rfl⟩ := hv
  obtain rfl : g = bb := by
    have := (hR.2.1 (by omega)).1
    simp at this
    exact this
  obtain ⟨cur, hg, hB, hcs, hct⟩ : ∃ cur : List Value, w.heap[g]? = some (.cells cur.toArray 24 (0, 0)) ∧ B ≤ g ∧ cur.length = c * 5 ∧ cur.take (n * 5) = encLR l := by
    rcases hO.2 with ⟨h0, _⟩ | ⟨g', cap', cur, h', hb, hg, _, _, hcs, ht⟩
    · cases h0
    · simp only [Value.slice.injEq, Option.some.injEq, Addr.mk.injEq] at h'
      obtain ⟨⟨rfl, -⟩, -, rfl⟩ := h'
      exact ⟨cur.toList, by simpa using hg, hb, by simpa using hcs, by rw [← hl]; exact ht⟩
  have hgw := (hR.2.1 (by omega)).2
  have henc := hR.encs
  have hqw := (Array.getElem?_eq_some_iff.1 hq).1
  have hfq := fun j => blk_free hq j
  have hov : ∀ lb cb, (callFunc 38 #[.slice (some ⟨q, 0, none⟩) 1 1, .slice (some ⟨g, (i + 1) * 5, none⟩) lb cb]).run Try.prog w = .ok (.value (.bool false)) w := fun lb cb => by
    rw [run_callFunc_extern Try.func38 (by kernel_rfl) (by kernel_rfl) (by kernel_rfl) (e := Extern.SlicesOverlaps.overlaps #[22, 22] #[4]) (by kernel_rfl),
      Lib.run_overlaps_apart w 22 4 24 Try.underlying22 5 (fun w => by obtain ⟨i0, hi0, _, hzs, _⟩ := info_parts info_R; simp [sizeOf, typeInfo, hi0, hzs]) ⟨q, 0, none⟩ ⟨g, (i + 1) * 5, none⟩ 1 1 lb cb hqg 24 24 5 cur.length (by simp [World.shape?, hq, encR]) (by simp [World.shape?, hg]) (by omega) (hfq 0) (hfq 5)]
    rfl
  unfold maxLen at hcm
  have H := Lib.hid (show _ ∧ _ ∧ _ ∧ _ ∧ _ from ⟨hg, hq, henc, hcs, hct⟩)
  clear hR hO hg hq henc hcs hct hfq
  have hGi : ¬ (c = i) := by omega
  have hGi1 : ¬ (c = i + 1) := by omega
  have e1 : ((i : Int) == (n : Int)) = false := by simp; omega
  have e2 : ¬ ((n : Int) + 1 > (c : Int)) := by omega
  have e3 : ¬ ((c : Int) < (n : Int) + 1) := by omega
  have hw1 : IntKind.i64.wrap ((n : Int) + 1) = (n : Int) + 1 := by rw [IntKind.wrap_i64]; omega
  have hw2 : IntKind.i64.wrap ((i : Int) + 1) = (i : Int) + 1 := by rw [IntKind.wrap_i64]; omega
  have HL := Lib.hid (show _ ∧ _ from ⟨hl, hlc⟩)
  clear hl hlc
  go_enter Try.func34, Try.ntmps34
  go_wp2_with (simp only [hov])
  refine wp_region_grow_tail 8 (by kernel_rfl) (by kernel_rfl) ?_
  simp only [List.take_succ_cons, List.take_zero, List.drop_succ_cons, List.drop_zero]
  repeat (go_big_quiet_step ((fail)))
  refine wpQuiet_nil ?_
  intro WQ hq'
  have hq := of_regrown hq'
  clear hq'
  have hgq : g < WQ.heap.size := by have := hq.size; omega
  refine wpList_copyN rfl (.tmp 73) (.tmp 76) _ _ rfl 24 Try.underlying22 5 info_R_size g ((i + 1) * 5) (n - i) (c - (i + 1)) ⟨g, i * 5, none⟩ (n + 1 - i) (c - i) (by rfl) (by rfl) cur 24 (blk_below H.out.1 hq hgw) (encLR (l.drop i)) (n - i) (Nat.min_eq_right (by omega)).symm (by rw [encLR_len, List.length_drop, HL.out.1]) (fun j v hj => by
    rw [Addr.add_lit]
    refine (hq.cell (p := ⟨g, i * 5 + j, none⟩) (show g < w.heap.size by omega)).trans ?_
    have hc := H.out.2.2.1 (i * 5 + j) v
    rw [Nat.zero_add] at hc
    refine hc ?_
    rw [← encLK_dropR l i (by rw [HL.out.1]; omega), List.getElem?_drop] at hj
    exact hj) (by rw [H.out.2.2.2.1, encLR_len, List.length_drop, HL.out.1]; omega) (encLR_cells _) ?_
  intro W2 h2
  have hq2 : W2.heap[q]? = _ := (h2.out.2.1 q hqg).trans (blk_below H.out.2.1 hq hqw)
  have HQ2 := Lib.hid hq2
  clear hq2
  go_simp
  go_wp2_with (first | (with_reducible refine halt_at (o := ⟨some 82, _, _, _, _, _⟩) ?_))
  unfold Halt
  refine wpList_copyN rfl (.tmp 80) (.tmp 81) _ _ rfl 24 Try.underlying22 5 info_R_size g (i * 5) (n + 1 - i) (c - i) ⟨q, 0, none⟩ 1 1 (by rfl) (by rfl) _ 24 h2.out.1 (encR r) 1 (Nat.min_eq_left (by omega)).symm rfl (src_of_block HQ2.out) (by rw [length_splice _ _ _ (by rw [H.out.2.2.2.1, encLR_len, List.length_drop, HL.out.1]; omega), H.out.2.2.2.1, encR_len]; omega) (encR_one r) ?_
  intro W3 h3
  have e5 : (i + 1) * 5 = i * 5 + (encR r).length := by rw [encR_len]; omega
  have hrow := h3.out.1
  rw [e5] at hrow
  have hln : (encLR (l.drop i)).length = (n - i) * 5 := by rw [encLR_len, List.length_drop, HL.out.1]
  have hfin := RsO.of_row (B := B) (n := n + 1) (c := c) (l := l.take i ++ [r] ++ l.drop i) hrow hB (by simp [HL.out.1]; omega) hnc (by unfold maxLen; omega) (by rw [length_splice _ _ _ (by rw [length_splice _ _ _ (by rw [H.out.2.2.2.1, encR_len, hln]; omega), H.out.2.2.2.1, encR_len]; omega), length_splice _ _ _ (by rw [H.out.2.2.2.1, encR_len, hln]; omega), H.out.2.2.2.1]) (by
    have hs := splice_down cur (encR r) (encLR (l.drop i)) (i * 5) (by rw [H.out.2.2.2.1, encR_len, hln]; omega)
    have htk : cur.take (i * 5) = encLR (l.take i) := by
      rw [← encLK_takeR l i (by rw [HL.out.1]; omega), ← H.out.2.2.2.2, List.take_take, Nat.min_eq_left (by omega)]
    rw [show (n + 1) * 5 = i * 5 + (encR r).length + (encLR (l.drop i)).length by rw [encR_len, hln]; omega, hs, htk, encLR_app, encLR_app, encLR_one, List.append_assoc])
  have hb3 : Below B w W3 := h3.out.2.2.1 B w (h2.out.2.2.1 B w (hq.mono (by omega)) hB) hB
  have HF := Lib.hid (show _ ∧ _ from ⟨hfin, hb3⟩)
  clear hrow hfin hb3 hln e5
  go_simp
  go_wp2
  exact bodyPost_ret (v := .slice (some ⟨g, 0, none⟩) (n + 1) c) (by simp [results, Try.results34, go_sem]) rfl ⟨_, rfl, HF.out.1, HF.out.2⟩
end Go.Proofs.Ytjedpemjifcciaa
