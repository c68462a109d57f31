/- Read (layer 4). -/
import Derived.Test.YtbimmahlcceadaaDskNewest
namespace Go.Proofs.Ytbimmahlcceadaa
open Go.RowKit Go.Shelf

attribute [local go_sem] Oper.semAt_some

/-- None of these writes goes to the sector. -/
def NoHit (P : List Wr) (i : Int) {n : Nat} (pre : List (Ix n)) : Prop := ∀ y ∈ pre, ¬ (nW P (n - 1 - y.1)).1 = i
theorem NoHit.snoc {P : List Wr} {i : Int} {n : Nat} {pre : List (Ix n)} {x : Ix n} (h : NoHit P i pre) (hx : ¬ (nW P (n - 1 - x.1)).1 = i) : NoHit P i (pre ++ [x]) :=
  fun y hy => (List.mem_append.1 hy).elim (h y) (fun e => by rw [List.mem_singleton.1 e]; exact hx)
theorem rd_none {P : List Wr} {i : Int} {X : Sl} : ∀ n, (∀ j, j < n → ¬ (nW P j).1 = i) → rdK P i X n = X
  | 0, _ => rfl
  | n + 1, h => (rdK_no (h n (by omega))).trans (rd_none n fun j hj => h j (by omega))
theorem rd_hit {P : List Wr} {i : Int} {X : Sl} {j : Nat} (hj : (nW P j).1 = i) : ∀ n, j < n → (∀ q, j < q → q < n → ¬ (nW P q).1 = i) → rdK P i X n = (nW P j).2
  | 0, h, _ => by omega
  | n + 1, h, hq => by
    by_cases e : j = n
    · subst e; exact rdK_yes hj
    · exact (rdK_no (hq n (by omega) (by omega))).trans (rd_hit hj n (by omega) fun q a b => hq q a (by omega))
theorem firstK_mem {n : Nat} {pre : List (Ix n)} {k : Nat} (h : firstK pre k) {j : Nat} (hj : j < k) : ∃ y ∈ pre, y.1 = j := by
  have : j ∈ pre.map (·.1) := by rw [h]; exact List.mem_range.2 hj
  obtain ⟨y, h1, h2⟩ := List.mem_map.1 this
  exact ⟨y, h1, h2⟩
theorem firstK_snoc {n : Nat} {pre : List (Ix n)} {x : Ix n} {k : Nat} (h : firstK (pre ++ [x]) k) : firstK pre x.1 ∧ k = x.1 + 1 := by
  unfold firstK at *
  have hl := congrArg List.length h
  simp at hl
  rw [← hl, List.map_append, List.range_succ] at h
  obtain ⟨h1, h2⟩ := List.append_inj' h rfl
  simp at h2
  rw [h2] at *
  refine ⟨?_, by omega⟩
  rw [h1]
theorem rd_all {P : List Wr} {i : Int} {X : Sl} {n : Nat} {xs : List (Ix n)} (hf : firstK xs n) (h : NoHit P i xs) : rdK P i X n = X := by
  refine rd_none n fun j hj => ?_
  obtain ⟨y, hy, e⟩ := firstK_mem hf (j := n - 1 - j) (by omega)
  have := h y hy
  rw [e, show n - 1 - (n - 1 - j) = j by omega] at this
  exact this
theorem rd_one {P : List Wr} {i : Int} {X : Sl} {n : Nat} {pre : List (Ix n)} {x : Ix n} {k : Nat} (hf : firstK (pre ++ [x]) k) (h : NoHit P i pre) (hx : (nW P (n - 1 - x.1)).1 = i) : rdK P i X n = (nW P (n - 1 - x.1)).2 := by
  obtain ⟨hf1, _⟩ := firstK_snoc hf
  have hxl := x.2
  refine rd_hit hx n (by omega) fun q a b => ?_
  obtain ⟨y, hy, e⟩ := firstK_mem hf1 (j := n - 1 - q) (by omega)
  have := h y hy
  rw [e, show n - 1 - (n - 1 - q) = q by omega] at this
  exact this
set_option maxRecDepth 100000 in
set_option maxHeartbeats 4000000 in
theorem read_in (S : List Sl) (P : List Wr) (lf : Int) (st : Bool) (sa : Option Addr) (sb so sn sc : Nat) (pa : Option Addr) (pb po pn pc : Nat) (i : Int) (w : World) (hS : Secs w sa sb so sn S) (hP : Pens w pa pb po pn P) (hsn : sn ≤ 9223372036854775807) (hpn : pn ≤ 9223372036854775807) (hr : runB ⟨S, P, lf, st⟩ = true) (h0 : 0 ≤ i) (h1 : i < (sn : Int)) :
    CallsIn Fence.wide 5 Try.prog 21 #[.agg #[.slice sa sn sc, .slice pa pn pc, .int .i64 lf, .bool st], .int .i64 i] w fun e w' => Below w.heap.size w w' ∧ e = .returned (.tuple #[slV (rdK P i (nS S i.toNat) pn), .int .i64 0]) := by
  have hro : Fence.wide.round = none := rfl
  have HH := Lib.hid (And.intro hS hP)
  clear hS hP
  have HR := Lib.hid hr
  clear hr
  refine callsIn_of_wp_marks Try.func21 rfl trivial ?_ hro
  simp only [Try.ntmps21, List.size_toArray, List.length_cons, List.length_nil, Nat.reduceAdd, Nat.reduceSub, Array.replicate_succ, Array.replicate_zero, List.push_toArray, List.append_toArray, List.nil_append, List.cons_append]
  obtain ⟨w0, hw0⟩ : ∃ w0, w0 = ((((w.alloc (.cells #[.slice sa sn sc, .slice pa pn pc, .int .i64 lf, .bool st] 25)).alloc (.cells #[.int .i64 i] 3)).alloc (.cells #[.slice none 0 0] 35)).alloc (.cells #[.int .i64 0] 28)) := ⟨_, rfl⟩
  have hB0 : Below w.heap.size w w0 := by rw [hw0]; go_grown
  have z0 : w0.heap.size = w.heap.size + 4 := by rw [hw0]; simp
  have k0 : w0.heap[w.heap.size]? = some (.cells #[.slice sa sn sc, .slice pa pn pc, .int .i64 lf, .bool st] 25 (0, 0)) := by rw [hw0]; exact blk_alloc (blk_alloc (blk_alloc (blk_new w _) _) _) _
  have k1 : w0.heap[w.heap.size + 1]? = some (.cells #[.int .i64 i] 3 (0, 0)) := by rw [hw0]; exact blk_alloc (blk_alloc (blkZ (by simp)) _) _
  have k2 : w0.heap[w.heap.size + 1 + 1]? = some (.cells #[.slice none 0 0] 35 (0, 0)) := by rw [hw0]; exact blk_alloc (blkZ (by simp)) _
  have k3 : w0.heap[w.heap.size + 1 + 1 + 1]? = some (.cells #[.int .i64 0] 28 (0, 0)) := by rw [hw0]; exact blkZ (by simp)
  have c0 := blk_cell k0 0
  have c1 := blk_cell k0 1
  have c2 := blk_cell k0 2
  have c3 := blk_cell k0 3
  have d0 := blk_cell k1 0
  gi_wp2_with fail
  refine ⟨trivial, ?_⟩
  rw [← hw0]
  refine (callsIn_wide.2 (runs_any S P lf st sa sb so sn sc pa pb po pn pc w0 (HH.out.1.below hB0 (Nat.le_refl _)) (HH.out.2.below hB0 (Nat.le_refl _)) hsn hpn)).mono ?_
  rintro e w1 ⟨rfl, hb1⟩
  rw [HR.out]
  replace k0 := blk_below k0 hb1 (by omega)
  replace k1 := blk_below k1 hb1 (by omega)
  replace k2 := blk_below k2 hb1 (by omega)
  replace k3 := blk_below k3 hb1 (by omega)
  have z1 := hb1.size
  have hB1 := below_after hB0 hb1 (by omega)
  have c0 := blk_cell k0 0
  have c1 := blk_cell k0 1
  have c2 := blk_cell k0 2
  have c3 := blk_cell k0 3
  have d0 := blk_cell k1 0
  clear hw0 hb1
  have K0 := Lib.hid k0; have K1 := Lib.hid k1; have K2 := Lib.hid k2; have K3 := Lib.hid k3
  clear k0 k1 k2 k3
  gi_wp2_with fail
  refine ⟨trivial, ?_⟩
  refine (callsIn_wide.2 (sector_any _ sa sn sc lf st i _)).mono ?_
  rintro e w2 ⟨rfl, hb2⟩
  rw [sctB_t h0 h1]
  have k0 := blk_below K0.out hb2 (by omega)
  have k1 := blk_below K1.out hb2 (by omega)
  have k2 := blk_below K2.out hb2 (by omega)
  have k3 := blk_below K3.out hb2 (by omega)
  have z2 := hb2.size
  have hB2 := below_after hB1 hb2 (by omega)
  clear hb2 K0 K1 K2 K3 c0 c1 c2 c3 d0
  have c0 := blk_cell k0 0
  have c1 := blk_cell k0 1
  have c2 := blk_cell k0 2
  have c3 := blk_cell k0 3
  have d0 := blk_cell k1 0
  have K0 := Lib.hid k0; have K1 := Lib.hid k1; have K2 := Lib.hid k2; have K3 := Lib.hid k3
  clear k0 k1 k2 k3
  gi_wp2_with fail
  refine ⟨trivial, ?_⟩
  refine (callsIn_wide.2 (newest_any pa pn pc _)).mono ?_
  rintro e w' ⟨rfl, rfl⟩
  gi_wp2
  obtain ⟨W0, hW0⟩ : ∃ W0, W0 = w2.alloc (.cells #[.slice pa pn pc] 23) := ⟨_, rfl⟩
  have zW : W0.heap.size = w2.heap.size + 1 := by rw [hW0]; simp
  have hBW : Below w.heap.size w W0 := by rw [hW0]; exact hB2.alloc hB2.size _
  have j0 : W0.heap[w.heap.size]? = some (.cells #[.slice sa sn sc, .slice pa pn pc, .int .i64 lf, .bool st] 25 (0, 0)) := by rw [hW0]; exact blk_alloc K0.out _
  have j1 : W0.heap[w.heap.size + 1]? = some (.cells #[.int .i64 i] 3 (0, 0)) := by rw [hW0]; exact blk_alloc K1.out _
  have j2 : W0.heap[w.heap.size + 1 + 1]? = some (.cells #[.slice none 0 0] 35 (0, 0)) := by rw [hW0]; exact blk_alloc K2.out _
  have j3 : W0.heap[w.heap.size + 1 + 1 + 1]? = some (.cells #[.int .i64 0] 28 (0, 0)) := by rw [hW0]; exact blk_alloc K3.out _
  have jB : W0.heap[w2.heap.size]? = some (.cells #[.slice pa pn pc] 23 (0, 0)) := by rw [hW0]; exact blk_new _ _
  rw [← hW0]
  clear c0 c1 c2 c3 d0
  refine wpIn_rangeFunc_ownH rfl (by omega) (gf := 33) (lb := #[.pointer (some ⟨w2.heap.size, 0, none⟩)]) rfl trivial (enters_of Try.func33 (by kernel_rfl) rfl)
    (newest_stops _ (by omega) w2.heap.size pb po pn pc pa P W0 (fun k => k = w.heap.size + 1 + 1 ∨ k = w.heap.size + 1 + 1 + 1) (by omega) (fun h => by have := HH.out.2.old h; omega) hpn jB (HH.out.2.below hBW (Nat.le_refl _)))
    kpEx_t kpEx_b (Below.refl _ _) (fun _ => rfl)
    (fun pre W => ((W.heap[w.heap.size]? = some (.cells #[.slice sa sn sc, .slice pa pn pc, .int .i64 lf, .bool st] 25 (0, 0)) ∧ W.heap[w.heap.size + 1]? = some (.cells #[.int .i64 i] 3 (0, 0)) ∧ W.heap[w.heap.size + 1 + 1]? = some (.cells #[.slice none 0 0] 35 (0, 0)) ∧ W.heap[w.heap.size + 1 + 1 + 1]? = some (.cells #[.int .i64 0] 28 (0, 0))) ∧ NoHit P i pre) ∧ Below w.heap.size w W)
    (fun c pre W => (c = .ret ∧ ∃ pre' y, pre = pre' ++ [y] ∧ NoHit P i pre' ∧ (nW P (pn - 1 - y.1)).1 = i ∧ W.heap[w.heap.size + 1 + 1]? = some (.cells #[slV (nW P (pn - 1 - y.1)).2] 35 (0, 0)) ∧ W.heap[w.heap.size + 1 + 1 + 1]? = some (.cells #[.int .i64 0] 28 (0, 0))) ∧ Below w.heap.size w W)
    (OwnFrom.and (Own.from (fun s A B row hs hg hr => ⟨⟨blk_kept hs.1.1 hg hr, blk_kept hs.1.2.1 hg hr, blk_kept hs.1.2.2.1 hg hr, blk_kept hs.1.2.2.2 hg hr⟩, hs.2⟩) _) (ownFrom_below (Nat.le_refl _) (by omega)))
    (fun c => OwnFrom.and (Own.from (fun s A B row hs hg hr => by obtain ⟨h1, pre', y, h2, h3, h4, h5, h6⟩ := hs; exact ⟨h1, pre', y, h2, h3, h4, blk_kept h5 hg hr, blk_kept h6 hg hr⟩) _) (ownFrom_below (Nat.le_refl _) (by omega)))
    ⟨⟨⟨j0, j1, j2, j3⟩, fun y hy => by cases hy⟩, hBW⟩
    (fun x a' W => ∃ Bx, w.heap.size + 1 + 1 + 1 < Bx ∧ W.heap[Bx]? = some (.cells #[.int .i64 (nW P (pn - 1 - x.1)).1, slV (nW P (pn - 1 - x.1)).2] 54 (0, 0)) ∧ a' = { tmps := #[.agg #[.slice sa sn sc, .slice pa pn pc, .int .i64 lf, .bool st], .int .i64 i, .pointer (some ⟨w.heap.size, 0, none⟩), .pointer (some ⟨w.heap.size + 1, 0, none⟩), .pointer (some ⟨w.heap.size + 1 + 1, 0, none⟩), .pointer (some ⟨w.heap.size + 1 + 1 + 1, 0, none⟩), .pointer (some ⟨Bx, 0, none⟩), .agg #[.slice sa sn sc, .slice pa pn pc, .int .i64 lf, .bool st], .bool true, .bool false, .bool false, .agg #[.slice sa sn sc, .slice pa pn pc, .int .i64 lf, .bool st], .int .i64 i, .bool true, .bool false, .bool false, .pointer (some ⟨w.heap.size, 1, none⟩), .slice pa pn pc, .func (.func 33) #[] #[.pointer (some ⟨w2.heap.size, 0, none⟩)], wrV (nW P (pn - 1 - x.1)), undef, undef, undef, undef, undef, undef, undef, undef, undef, undef, undef], defers := [] })
    (fun x a' => Own.from (fun s A B row hs hg hr => by obtain ⟨Bx, h1, h2, h3⟩ := hs; exact ⟨Bx, h1, blk_kept h2 hg hr, h3⟩) _) ?assign ?body ?done ?stop
  case assign =>
    rintro lp pre x W K ⟨⟨h5, h7⟩, hB⟩ hK
    simp only [encN, wrV]
    gi_wp2
    refine hK _ _ ((KeepsOthers.alloc _ _).from _) (KpEx.alloc _ _ _) ⟨⟨⟨blk_alloc h5.1 _, blk_alloc h5.2.1 _, blk_alloc h5.2.2.1 _, blk_alloc h5.2.2.2 _⟩, h7⟩, hB.alloc hB.size _⟩ ⟨W.heap.size, ?_, blk_new W _, rfl⟩
    exact (Array.getElem?_eq_some_iff.1 h5.2.2.2).1
  case body =>
    rintro lp pre x a' W _ _ ⟨⟨⟨h0, h1, h2, h3⟩, h5⟩, hB⟩ ⟨Bx, hBx, hX, rfl⟩ _
    have b1 := blk_cell h1 0; have b2 := blk_cell h2 0; have b3 := blk_cell h3 0
    have g2 := blk_free h2 0; have g3 := blk_free h3 0
    have x0 := blk_cell hX 0; have x1 := blk_cell hX 1
    simp at b1 b2 b3 g2 g3 x0 x1
    unfold slV at x1
    have HI := Lib.hid (show _ ∧ _ ∧ _ ∧ _ ∧ _ from ⟨h0, h1, h2, h3, h5⟩)
    clear h0 h1 h2 h3 h5 hX j0 j1 j2 j3 jB
    unfold wrV
    by_cases q1 : (nW P (pn - 1 - x.1)).1 = i
    · have HQ := Lib.hid q1
      have e1 : ((nW P (pn - 1 - x.1)).1 == i) = true := by simp [q1]
      clear q1
      gi_wp2
      exact ⟨((KeepsOthers.setCell _ _ _).trans (KeepsOthers.setCell _ _ _)).from _, ⟨rfl, pre, x, rfl, HI.out.2.2.2.2, HQ.out, (Below.heap_setCell _ _ _ _ (show w.heap.size + 1 + 1 ≠ w.heap.size + 1 + 1 + 1 by omega)).trans (one_setCell HI.out.2.2.1), one_setCell ((Below.heap_setCell _ _ _ _ (show w.heap.size + 1 + 1 + 1 ≠ w.heap.size + 1 + 1 by omega)).trans HI.out.2.2.2.1)⟩, (hB.setCell (p := ⟨w.heap.size + 1 + 1, 0, none⟩) (show w.heap.size ≤ w.heap.size + 1 + 1 by omega) _).setCell (p := ⟨w.heap.size + 1 + 1 + 1, 0, none⟩) (show w.heap.size ≤ w.heap.size + 1 + 1 + 1 by omega) _⟩
    · have HQ := Lib.hid q1
      have e1 : ((nW P (pn - 1 - x.1)).1 == i) = false := by simp [q1]
      clear q1
      gi_wp2
      exact ⟨KeepsFrom.refl _ _, KpEx.refl _ _, ⟨⟨HI.out.1, HI.out.2.1, HI.out.2.2.1, HI.out.2.2.2.1⟩, HI.out.2.2.2.2.snoc HQ.out⟩, hB⟩
  case done =>
    rintro D xs W hD hxs ⟨⟨⟨h5, h6, h7, h8⟩, hn⟩, hB⟩ hDf
    rename_i K hK
    have c0 := blk_cell h5 0; have c6 := blk_cell h6 0; have c7 := blk_cell h7 0; have c8 := blk_cell h8 0
    have g2 := blk_free h7 0; have g3 := blk_free h8 0
    simp at c0 c6 c7 c8 g2 g3
    have HE := Lib.hid (rd_all (X := nS S i.toNat) hxs hn)
    clear hxs hn
    obtain ⟨j, rfl⟩ := Int.eq_ofNat_of_zero_le h0
    have hjs : j < sn := by omega
    obtain rfl := HH.out.1.adr (by omega)
    have hc := (hB.cell (p := ⟨sb, so + j, none⟩) (HH.out.1.old (by omega))).trans (HH.out.1.cel j hjs)
    generalize hV : nS S j = X at hc
    unfold slV at hc
    have HV := Lib.hid hV
    have j2 : ¬ (j : Int) < 0 := by omega
    have hD2 : ((W.setCell ⟨w.heap.size + 1 + 1, 0, none⟩ (.slice X.1 X.2.2.length X.2.1)).setCell ⟨w.heap.size + 1 + 1 + 1, 0, none⟩ (.int .i64 0)).heap[D]? = some (.deferred (some [])) := (Below.heap_setCell _ _ _ _ (show D ≠ w.heap.size + 1 + 1 + 1 by omega)).trans ((Below.heap_setCell _ _ _ _ (show D ≠ w.heap.size + 1 + 1 by omega)).trans hDf)
    have p2 : (((W.setCell ⟨w.heap.size + 1 + 1, 0, none⟩ (.slice X.1 X.2.2.length X.2.1)).setCell ⟨w.heap.size + 1 + 1 + 1, 0, none⟩ (.int .i64 0)).putObj D (.deferred none)).heap[w.heap.size + 1 + 1]? = some (.cells #[(.slice X.1 X.2.2.length X.2.1)] 35 (0, 0)) := (World.putObj_heap_other (by omega)).trans ((Below.heap_setCell _ _ _ _ (show w.heap.size + 1 + 1 ≠ w.heap.size + 1 + 1 + 1 by omega)).trans (one_setCell h7))
    have p3 : (((W.setCell ⟨w.heap.size + 1 + 1, 0, none⟩ (.slice X.1 X.2.2.length X.2.1)).setCell ⟨w.heap.size + 1 + 1 + 1, 0, none⟩ (.int .i64 0)).putObj D (.deferred none)).heap[w.heap.size + 1 + 1 + 1]? = some (.cells #[.int .i64 0] 28 (0, 0)) := (World.putObj_heap_other (by omega)).trans (one_setCell ((Below.heap_setCell _ _ _ _ (show w.heap.size + 1 + 1 + 1 ≠ w.heap.size + 1 + 1 by omega)).trans h8))
    have b2 := blk_cell p2 0; have b3 := blk_cell p3 0
    simp at b2 b3
    have HD := Lib.hid (show _ ∧ _ ∧ _ from ⟨hD2, b2, b3⟩)
    have hB5 := (hB.setCell (p := ⟨w.heap.size + 1 + 1, 0, none⟩) (show w.heap.size ≤ w.heap.size + 1 + 1 by omega) (.slice X.1 X.2.2.length X.2.1)).setCell (p := ⟨w.heap.size + 1 + 1 + 1, 0, none⟩) (show w.heap.size ≤ w.heap.size + 1 + 1 + 1 by omega) (.int .i64 0)
    have HB5 := Lib.hid hB5
    clear hD2 p2 p3 b2 b3 hB5 hV h5 h6 h7 h8 j0 j1 j3 jB
    refine hK _ _ (wpIn_wide.2 ?_)
    go_wp2_with fail
    refine ⟨by simp, .inl ⟨_, _, rfl, run_takeDeferred HD.out.1, ?_⟩⟩
    exact ⟨.tuple #[(.slice X.1 X.2.2.length X.2.1), .int .i64 0], by have b2 := HD.out.2.1; have b3 := HD.out.2.2; simp [results, Try.results21, go_sem, b2, b3], HB5.out.trans (belowK_b (w := w) (Nat.le_refl _) _ D _ _ (by omega) HD.out.1 rfl rfl), by have h := HE.out; simp only [Int.toNat_natCast] at h ⊢; rw [h, HV.out]; rfl⟩
  case stop =>
    rintro D cc pre W hD ⟨k, hk, hf⟩ ⟨⟨rfl, pre', y, rfl, hlt, hy, h1, h5⟩, hB⟩ hDf
    have HE := Lib.hid (rd_one (X := nS S i.toNat) hf hlt hy)
    have p2 : (W.putObj D (.deferred none)).heap[w.heap.size + 1 + 1]? = _ := (World.putObj_heap_other (by omega)).trans h1
    have p3 : (W.putObj D (.deferred none)).heap[w.heap.size + 1 + 1 + 1]? = _ := (World.putObj_heap_other (by omega)).trans h5
    have b2 := blk_cell p2 0; have b3 := blk_cell p3 0
    simp at b2 b3
    generalize hV : slV (nW P (pn - 1 - y.1)).2 = V at b2
    have HD := Lib.hid (show _ ∧ _ ∧ _ from ⟨hV, b2, b3⟩)
    clear p2 p3 b2 b3 hV
    gi_wp2_with fail
    refine ⟨by simp, .inl ⟨_, _, rfl, run_takeDeferred hDf, ?_⟩⟩
    exact ⟨.tuple #[V, .int .i64 0], by have b2 := HD.out.2.1; have b3 := HD.out.2.2; simp [results, Try.results21, go_sem, b2, b3], hB.trans (belowK_b (w := w) (Nat.le_refl _) _ D _ _ (by omega) hDf rfl rfl), by rw [HE.out, ← HD.out.1]⟩
/-- Read. -/
theorem read_any (S : List Sl) (P : List Wr) (lf : Int) (st : Bool) (sa : Option Addr) (sb so sn sc : Nat) (pa : Option Addr) (pb po pn pc : Nat) (i : Int) (w : World) (hS : Secs w sa sb so sn S) (hP : Pens w pa pb po pn P) (hsn : sn ≤ 9223372036854775807) (hpn : pn ≤ 9223372036854775807) :
    Calls Try.prog 21 #[.agg #[.slice sa sn sc, .slice pa pn pc, .int .i64 lf, .bool st], .int .i64 i] w fun e w' => ReadR S P (runB ⟨S, P, lf, st⟩) sn pn i e ∧ Below w.heap.size w w' := by
  by_cases hg : runB ⟨S, P, lf, st⟩ = true ∧ 0 ≤ i ∧ i < (sn : Int)
  · refine (callsIn_wide.1 (read_in S P lf st sa sb so sn sc pa pb po pn pc i w hS hP hsn hpn hg.1 hg.2.1 hg.2.2)).mono ?_
    rintro e w' ⟨hb, rfl⟩
    exact ⟨.inr ⟨hg.1, hg.2.1, hg.2.2, rfl⟩, hb⟩
  have HH := Lib.hid (And.intro hS hP)
  have HG := Lib.hid hg
  clear hS hP
  go_enter Try.func21, Try.ntmps21
  go_upto_region 1 with fail
  obtain ⟨w0, hw0⟩ : ∃ w0, w0 = ((((w.alloc (.cells #[.slice sa sn sc, .slice pa pn pc, .int .i64 lf, .bool st] 25)).alloc (.cells #[.int .i64 i] 3)).alloc (.cells #[.slice none 0 0] 35)).alloc (.cells #[.int .i64 0] 28)) := ⟨_, rfl⟩
  have hB0 : Below w.heap.size w w0 := by rw [hw0]; go_grown
  have z0 : w0.heap.size = w.heap.size + 4 := by rw [hw0]; simp
  have k0 : w0.heap[w.heap.size]? = some (.cells #[.slice sa sn sc, .slice pa pn pc, .int .i64 lf, .bool st] 25 (0, 0)) := by rw [hw0]; exact blk_alloc (blk_alloc (blk_alloc (blk_new w _) _) _) _
  have k1 : w0.heap[w.heap.size + 1]? = some (.cells #[.int .i64 i] 3 (0, 0)) := by rw [hw0]; exact blk_alloc (blk_alloc (blkZ (by simp)) _) _
  have k2 : w0.heap[w.heap.size + 1 + 1]? = some (.cells #[.slice none 0 0] 35 (0, 0)) := by rw [hw0]; exact blk_alloc (blkZ (by simp)) _
  have k3 : w0.heap[w.heap.size + 1 + 1 + 1]? = some (.cells #[.int .i64 0] 28 (0, 0)) := by rw [hw0]; exact blkZ (by simp)
  rw [← hw0]
  clear hw0
  have c0 := blk_cell k0 0
  have c1 := blk_cell k0 1
  have c2 := blk_cell k0 2
  have c3 := blk_cell k0 3
  have d0 := blk_cell k1 0
  go_wp2_with fail
  refine (runs_any S P lf st sa sb so sn sc pa pb po pn pc w0 (HH.out.1.below hB0 (Nat.le_refl _)) (HH.out.2.below hB0 (Nat.le_refl _)) hsn hpn).mono ?_
  rintro e w1 ⟨rfl, hb1⟩
  replace k0 := blk_below k0 hb1 (by omega)
  replace k1 := blk_below k1 hb1 (by omega)
  replace k2 := blk_below k2 hb1 (by omega)
  replace k3 := blk_below k3 hb1 (by omega)
  have z1 := hb1.size
  have hB1 := below_after hB0 hb1 (by omega)
  clear c0 c1 c2 c3 d0 hb1
  have c0 := blk_cell k0 0
  have c1 := blk_cell k0 1
  have c2 := blk_cell k0 2
  have c3 := blk_cell k0 3
  have d0 := blk_cell k1 0
  have e2 := blk_cell k2 0
  have e3 := blk_cell k3 0
  have f2 := blk_free k2 0
  have f3 := blk_free k3 0
  by_cases hr : runB ⟨S, P, lf, st⟩ = true
  · have hs : sctB i sn = false := sctB_f (by
      rcases Int.lt_or_le i 0 with a | a
      · exact .inl a
      rcases Int.lt_or_le i sn with b | b
      · exact absurd ⟨hr, a, b⟩ hg
      · exact .inr b)
    rw [hr]
    clear hg hr
    have KK := Lib.hid (show _ ∧ _ ∧ _ ∧ _ ∧ _ from ⟨k0, k1, k2, k3, hB1⟩)
    clear k0 k1 k2 k3
    go_wp2_with fail
    refine (sector_any _ sa sn sc lf st i w1).mono ?_
    rintro e w2 ⟨rfl, hb2⟩
    rw [hs]
    have k2 := blk_below KK.out.2.2.1 hb2 (by omega)
    have k3 := blk_below KK.out.2.2.2.1 hb2 (by omega)
    have hB2 := below_after KK.out.2.2.2.2 hb2 (by omega)
    clear c0 c1 c2 c3 d0 e2 e3 f2 f3 hb2 hs
    have e2 := blk_cell k2 0
    have e3 := blk_cell k3 0
    have f2 := blk_free k2 0
    have f3 := blk_free k3 0
    have K2 := Lib.hid (show _ ∧ _ ∧ _ from ⟨k2, k3, hB2⟩)
    clear k2 k3 hB2
    go_wp2
    refine bodyPost_ret (v := .tuple #[.slice none 0 0, .int .i64 40]) (by simp [results, Try.results21, go_sem, e2, e3]) rfl ⟨.inl ⟨HG.out, rfl⟩, (K2.out.2.2.setCell (p := ⟨w.heap.size + 1 + 1, 0, none⟩) (show w.heap.size ≤ w.heap.size + 1 + 1 by omega) _).setCell (p := ⟨w.heap.size + 1 + 1 + 1, 0, none⟩) (show w.heap.size ≤ w.heap.size + 1 + 1 + 1 by omega) _⟩
  · rw [show runB ⟨S, P, lf, st⟩ = false by simpa using hr]
    clear hg hr
    have K2 := Lib.hid hB1
    clear k0 k1 k2 k3 hB1
    go_wp2
    refine bodyPost_ret (v := .tuple #[.slice none 0 0, .int .i64 40]) (by simp [results, Try.results21, go_sem, e2, e3]) rfl ⟨.inl ⟨HG.out, rfl⟩, (K2.out.setCell (p := ⟨w.heap.size + 1 + 1, 0, none⟩) (show w.heap.size ≤ w.heap.size + 1 + 1 by omega) _).setCell (p := ⟨w.heap.size + 1 + 1 + 1, 0, none⟩) (show w.heap.size ≤ w.heap.size + 1 + 1 + 1 by omega) _⟩
end Go.Proofs.Ytbimmahlcceadaa
