/- The walk of TempoMonotone (layer 9). -/
import Derived.Test.YtcgndcapdodhlaaTemLawB
import Derived.Test.YtcgndcapdodhlaaTemMonoM
namespace Go.Proofs.Ytcgndcapdodhlaa
open Go.ChangeShapes Go.WideShapes Go.ChangeAt Go.RowKit

theorem cells_set {w : World} {b i : Nat} {cs : Array Value} {v : Value} {t : TypeId} (h : w.heap[b]? = some (.cells cs t (0, 0))) : (w.setCell ⟨b, i, none⟩ v).heap[b]? = some (.cells (cs.setIfInBounds i v) t (0, 0)) := by
  have hlt := (Array.getElem?_eq_some_iff.1 h).1
  have h' : w.heap[b] = .cells cs t (0, 0) := (Array.getElem?_eq_some_iff.1 h).2
  show (w.heap.modify b _)[b]? = _
  rw [Array.getElem?_eq_getElem (by simpa using hlt), Array.getElem_modify_self, h']
  rfl
theorem below_drewN {B n : Nat} {a w : World} (h : Below B a w) : Below B a (w.drewN n) := ⟨h.os, h.tape, h.output, h.size, h.block⟩
theorem geS_old {l : List Tp} {k : Nat} {N D : Int} (h : ∀ j, j < k → geS N D (nthT l j)) (q : ¬ (nthT l k).2.1 * D < N * (nthT l k).2.2.1) : ∀ j, j < k + 1 → geS N D (nthT l j) := fun j hj => by
  by_cases e : j = k
  · subst e; exact Int.not_lt.1 q
  · exact h j (by omega)
theorem leS_old {l : List Tp} {k : Nat} {N D : Int} (h : ∀ j, j < k → leS N D (nthT l j)) (q : ¬ N * (nthT l k).2.2.1 < (nthT l k).2.1 * D) : ∀ j, j < k + 1 → leS N D (nthT l j) := fun j hj => by
  by_cases e : j = k
  · subst e; exact Int.not_lt.1 q
  · exact h j (by omega)
theorem geS_new {l : List Tp} {k u : Nat} (h : ∀ j, j < k → geS (nthT l u).2.1 (nthT l u).2.2.1 (nthT l j)) (ou : okT (nthT l u)) (ok : okT (nthT l k)) (q : (nthT l k).2.1 * (nthT l u).2.2.1 < (nthT l u).2.1 * (nthT l k).2.2.1) (hd : ∀ j, j < k → 0 ≤ (nthT l j).2.2.1) : ∀ j, j < k + 1 → geS (nthT l k).2.1 (nthT l k).2.2.1 (nthT l j) := fun j hj => by
  by_cases e : j = k
  · subst e; exact Int.le_refl _
  · have := ou.2.2.2.2.1; have := ok.2.2.2.2.1
    exact geS_trans (q := nthT l u) (by omega) (hd j (by omega)) (by omega) (Int.le_of_lt q) (h j (by omega))
theorem leS_new {l : List Tp} {k u : Nat} (h : ∀ j, j < k → leS (nthT l u).2.1 (nthT l u).2.2.1 (nthT l j)) (ou : okT (nthT l u)) (ok : okT (nthT l k)) (q : (nthT l u).2.1 * (nthT l k).2.2.1 < (nthT l k).2.1 * (nthT l u).2.2.1) (hd : ∀ j, j < k → 0 ≤ (nthT l j).2.2.1) : ∀ j, j < k + 1 → leS (nthT l k).2.1 (nthT l k).2.2.1 (nthT l j) := fun j hj => by
  by_cases e : j = k
  · subst e; exact Int.le_refl _
  · have := ou.2.2.2.2.1; have := ok.2.2.2.2.1
    exact leS_trans (q := nthT l u) (by omega) (hd j (by omega)) (by omega) (Int.le_of_lt q) (h j (by omega))
theorem four_set {w : World} {b : Nat} {x y z q u v s r : Value} {t : TypeId} (h : w.heap[b]? = some (.cells #[x, y, z, q] t (0, 0))) : ((((w.setCell ⟨b, 0, none⟩ u).setCell ⟨b, 1, none⟩ v).setCell ⟨b, 2, none⟩ s).setCell ⟨b, 3, none⟩ r).heap[b]? = some (.cells #[u, v, s, r] t (0, 0)) :=
  cells_set (cells_set (cells_set (cells_set h)))
theorem four_far {w : World} {b q : Nat} {u v s r : Value} {o : Obj} (hq : q ≠ b) (h : w.heap[q]? = some o) : ((((w.setCell ⟨b, 0, none⟩ u).setCell ⟨b, 1, none⟩ v).setCell ⟨b, 2, none⟩ s).setCell ⟨b, 3, none⟩ r).heap[q]? = some o :=
  (Below.heap_setCell _ _ _ _ hq).trans ((Below.heap_setCell _ _ _ _ hq).trans ((Below.heap_setCell _ _ _ _ hq).trans ((Below.heap_setCell _ _ _ _ hq).trans h)))
theorem four_below {B : Nat} {a w : World} {b : Nat} {u v s t : Value} (hb : B ≤ b) (h : Below B a w) : Below B a ((((w.setCell ⟨b, 0, none⟩ u).setCell ⟨b, 1, none⟩ v).setCell ⟨b, 2, none⟩ s).setCell ⟨b, 3, none⟩ t) :=
  (((h.setCell (p := ⟨b, 0, none⟩) hb _).setCell (p := ⟨b, 1, none⟩) hb _).setCell (p := ⟨b, 2, none⟩) hb _).setCell (p := ⟨b, 3, none⟩) hb _

set_option maxRecDepth 100000 in
set_option maxHeartbeats 8000000 in
theorem tempoMonotone_walk (a : Option Addr) (b off len cap : Nat) (l : List Tp) (p q : Int) (w : World) (hM : Ts w a len b off l) (hn : len ≤ 9223372036854775807) (hb : 0 < len → ∃ c tb fr, w.heap[b]? = some (.cells c tb fr)) :
    Calls Try.prog 7 #[.slice a len cap, .int .i64 p, .int .i64 q] w fun e w' => e = .returned (.bool true) ∧ Below w.heap.size w w' := by
  have HM := Lib.hid (show _ ∧ _ from ⟨hM, hb⟩)
  clear hb hM
  go_enter Try.func7, Try.ntmps7
  go_wp2_with fail
  refine (sane_any w).mono ?_; rintro e w1 ⟨rfl, hB⟩
  rcases Int.lt_trichotomy p q with hpq | hpq | hpq
  · have g1 : p ≤ q := by omega
    have g2 : ¬ q ≤ p := by omega
    go_wp2_with fail
    refine (tsample_any a b off len cap l p _ (HM.out.1.grown hB) hn (blk_has HM.out.2 hB)).mono ?_; rintro e w2 ⟨rfl, hb⟩
    replace hB := below_after hB hb hB.size
    clear hb
    go_wp2_with fail
    refine (tsample_any a b off len cap l q _ (HM.out.1.grown hB) hn (blk_has HM.out.2 hB)).mono ?_; rintro e w3 ⟨rfl, hb⟩
    replace hB := below_after hB hb hB.size
    clear hb
    rcases s_cases l p with ⟨k1, k2⟩ | ⟨k1, k2, k3, k4, k5⟩
    · rw [k2]
      have z9 : (sE l p != 0) = true := by simp [k1]
      clear k1 k2
      go_wp2
      go_ret
      exact ⟨rfl, hB⟩
    rw [k4, k5]
    clear k4 k5
    rcases s_cases l q with ⟨m1, m2⟩ | ⟨m1, m2, m3, m4, m5⟩
    · rw [m2]
      have z9 : (sE l q != 0) = true := by simp [m1]
      clear m1 m2
      go_wp2
      go_ret
      exact ⟨rfl, hB⟩
    rw [m4, m5]
    clear m4 m5
    have hmono := smp_mono k1 k2.1 (show p ≤ q by omega)
    have hlo := fun (N D : Int) (hD : 0 < D) (hg : ∀ i, i < l.length → geS N D (nthT l i)) => smp_lo k1 hD hg k2.1 (show p ≤ q by omega)
    have hhi := fun (N D : Int) (hD : 0 < D) (hg : ∀ i, i < l.length → leS N D (nthT l i)) => smp_hi k1 hD hg k2.1 (show p ≤ q by omega)
    have hx0 := smp_nn k1 k2.1
    obtain ⟨X, hX⟩ : ∃ X, X = smp l p := ⟨_, rfl⟩
    obtain ⟨Y, hY⟩ : ∃ Y, Y = smp l q := ⟨_, rfl⟩
    rw [← hX, ← hY] at hmono hlo hhi
    rw [← hX, ← hY]
    rw [← hX] at k3 hx0
    rw [← hY] at m3
    have zz : decide (Y < X) = false := decide_eq_false (by omega)
    have hl := HM.out.1.1
    have hl64 : len ≤ 64 := by rw [← hl]; exact k1.2.1
    have hl1 : 1 ≤ len := by rw [← hl]; exact k1.1
    have HH := Lib.hid (show _ ∧ _ ∧ _ ∧ _ from ⟨k1, hlo, hhi, hl⟩)
    have HX := Lib.hid (show _ ∧ _ from ⟨hX, hY⟩)
    clear hlo hhi k1 hX hY hl
    go_wp2_with fail
    refine (rcheck_any a len cap b off l _ (HM.out.1.grown hB) hn).mono ?_; rintro e w4 ⟨rfl, hb⟩
    replace hB := below_after hB hb hB.size
    clear hb
    rw [chk_yes HH.out.1]
    have ut : IntKind.i64.wrap (q - p) = q - p := wrap_id (by omega)
    have hp0 := (HH.out.1.2.2.2.2 0 (by rw [HH.out.2.2.2]; omega)).1
    obtain ⟨c0, c1, c2, c3⟩ := (HM.out.1.grown hB).2.2 0 (by omega)
    simp only [Nat.zero_mul, Nat.add_zero] at c0 c1 c2 c3
    obtain ⟨rfl, hbw⟩ := HM.out.1.2.1 (by omega)
    have hB0 := hB
    have hbw4 : b < w4.heap.size := Nat.lt_of_lt_of_le hbw hB.size
    go_wp2_with fail
    refine wp_region_from 0 6 (fun w' => w'.cell? ⟨b, off, none⟩ = some (.int .i64 (nthT l 0).1) ∧ w'.cell? ⟨b, off + 1, none⟩ = some (.int .i64 (nthT l 0).2.1) ∧ w'.cell? ⟨b, off + 2, none⟩ = some (.int .i64 (nthT l 0).2.2.1) ∧ w'.cell? ⟨b, off + 3, none⟩ = some (.bool (nthT l 0).2.2.2)) (by kernel_rfl) (by kernel_rfl) (by decide) (by kernel_rfl) ⟨c0, c1, c2, c3⟩ ?_
    simp only [List.drop_zero, List.take_succ_cons, List.take_zero]
    have i0 : (0 : Int) < (len : Int) := by omega
    have i00 : 0 < len := by omega
    refine wpHeld_cons (.slice (some ⟨b, off, none⟩) len cap) (by kernel_rfl) ?_ ?_
    · rintro w' ⟨s0, s1, s2, s3⟩
      try go_simp
    refine wpHeld_cons (.pointer (some ⟨b, off, none⟩)) (by kernel_rfl) ?_ ?_
    · rintro w' ⟨s0, s1, s2, s3⟩
      try go_simp
    refine wpHeld_cons (.agg #[.int .i64 (nthT l 0).1, .int .i64 (nthT l 0).2.1, .int .i64 (nthT l 0).2.2.1, .bool (nthT l 0).2.2.2]) (by kernel_rfl) ?_ ?_
    · rintro w' ⟨s0, s1, s2, s3⟩
      try go_simp
    refine wpHeld_cons (.slice (some ⟨b, off, none⟩) len cap) (by kernel_rfl) ?_ ?_
    · rintro w' ⟨s0, s1, s2, s3⟩
      try go_simp
    refine wpHeld_cons (.pointer (some ⟨b, off, none⟩)) (by kernel_rfl) ?_ ?_
    · rintro w' ⟨s0, s1, s2, s3⟩
      try go_simp
    refine wpHeld_cons (.agg #[.int .i64 (nthT l 0).1, .int .i64 (nthT l 0).2.1, .int .i64 (nthT l 0).2.2.1, .bool (nthT l 0).2.2.2]) (by kernel_rfl) ?_ ?_
    · rintro w' ⟨s0, s1, s2, s3⟩
      try go_simp
    refine wpHeld_nil ?_
    go_simp
    have n1 := blk_new w4.drew (.cells #[.int .i64 0, .int .i64 0, .int .i64 0, .bool false] 30)
    have n2 := blk_new (w4.drew.alloc (.cells #[.int .i64 0, .int .i64 0, .int .i64 0, .bool false] 30)) (.cells #[.int .i64 0, .int .i64 0, .int .i64 0, .bool false] 30)
    rw [World.size_alloc] at n2
    refine wpAnyH_two (i := 6) (j := 7) (by kernel_rfl) rfl rfl (by kernel_rfl) (by kernel_rfl) (fun K' hK' => ?_) (fun K' hK' => ?_)
    · go_simp
      refine hK' _ _ ⟨cell_alloc_keep c0 _, cell_alloc_keep c1 _, cell_alloc_keep c2 _, cell_alloc_keep c3 _⟩ ?_
      clear hK' K'
      refine wpAnyH_one (i := 7) (by kernel_rfl) rfl (by kernel_rfl) (fun K' hK' => ?_)
      go_simp
      refine hK' _ _ ⟨cell_alloc_keep (cell_alloc_keep c0 _) _, cell_alloc_keep (cell_alloc_keep c1 _) _, cell_alloc_keep (cell_alloc_keep c2 _) _, cell_alloc_keep (cell_alloc_keep c3 _) _⟩ ?_
      clear hK' K'
      generalize hW : ((w4.alloc (.cells #[.int .i64 0, .int .i64 0, .int .i64 0, .bool false] 30)).alloc (.cells #[.int .i64 0, .int .i64 0, .int .i64 0, .bool false] 30)).drew = W
      have hAB : w4.heap.size ≠ (w4.heap.size + 1) := by omega
      have hWA : W.heap[w4.heap.size]? = some (.cells #[.int .i64 0, .int .i64 0, .int .i64 0, .bool false] 30 (0, 0)) := by rw [← hW]; exact blk_alloc n1 _
      have hWB : W.heap[(w4.heap.size + 1)]? = some (.cells #[.int .i64 0, .int .i64 0, .int .i64 0, .bool false] 30 (0, 0)) := by rw [← hW]; exact n2
      have hBW : Below w.heap.size w W := by rw [← hW]; exact (((hB0.alloc hB0.size _).alloc (by simp; have := hB0.size; omega) _)).drew
      have hs0 := hB0.size
      clear hW n1 n2 hB hB0 c0 c1 c2 c3
      have a0 := blk_cell hWA 0; have a1 := blk_cell hWA 1; have a2 := blk_cell hWA 2; have a3 := blk_cell hWA 3
      have f0 := blk_free hWA 0; have f1 := blk_free hWA 1; have f2 := blk_free hWA 2; have f3 := blk_free hWA 3
      simp at a0 a1 a2 a3
      refine wpAnyH_one (i := 8) (by kernel_rfl) rfl (by kernel_rfl) (fun K' hK' => ?_)
      go_simp
      have hBW5 := four_below (u := .int .i64 (nthT l 0).1) (v := .int .i64 (nthT l 0).2.1) (s := .int .i64 (nthT l 0).2.2.1) (t := .bool (nthT l 0).2.2.2) (b := w4.heap.size) (by omega) hBW
      obtain ⟨c0, c1, c2, c3⟩ := (HM.out.1.grown hBW5).2.2 0 i00
      simp only [Nat.zero_mul, Nat.add_zero] at c0 c1 c2 c3
      refine hK' _ _ ⟨c0, c1, c2, c3⟩ ?_
      clear hK' K' a0 a1 a2 a3 f0 f1 f2 f3
      have hWA5 := four_set (u := .int .i64 (nthT l 0).1) (v := .int .i64 (nthT l 0).2.1) (s := .int .i64 (nthT l 0).2.2.1) (r := .bool (nthT l 0).2.2.2) hWA
      have hWB5 := four_far (u := .int .i64 (nthT l 0).1) (v := .int .i64 (nthT l 0).2.1) (s := .int .i64 (nthT l 0).2.2.1) (r := .bool (nthT l 0).2.2.2) (show (w4.heap.size + 1) ≠ w4.heap.size by omega) hWB
      have a0 := blk_cell hWB5 0; have a1 := blk_cell hWB5 1; have a2 := blk_cell hWB5 2; have a3 := blk_cell hWB5 3
      have f0 := blk_free hWB5 0; have f1 := blk_free hWB5 1; have f2 := blk_free hWB5 2; have f3 := blk_free hWB5 3
      simp at a0 a1 a2 a3
      clear hWA hWB hBW c0 c1 c2 c3
      generalize (((W.setCell ⟨w4.heap.size, 0, none⟩ (.int .i64 (nthT l 0).1)).setCell ⟨w4.heap.size, 1, none⟩ (.int .i64 (nthT l 0).2.1)).setCell ⟨w4.heap.size, 2, none⟩ (.int .i64 (nthT l 0).2.2.1)).setCell ⟨w4.heap.size, 3, none⟩ (.bool (nthT l 0).2.2.2) = W5 at *
      refine wpAnyH_one (i := 9) (by kernel_rfl) rfl (by kernel_rfl) (fun K' hK' => ?_)
      go_simp
      have hBW6 := four_below (u := .int .i64 (nthT l 0).1) (v := .int .i64 (nthT l 0).2.1) (s := .int .i64 (nthT l 0).2.2.1) (t := .bool (nthT l 0).2.2.2) (b := (w4.heap.size + 1)) (by omega) hBW5
      obtain ⟨c0, c1, c2, c3⟩ := (HM.out.1.grown hBW6).2.2 0 i00
      simp only [Nat.zero_mul, Nat.add_zero] at c0 c1 c2 c3
      refine hK' _ _ ⟨c0, c1, c2, c3⟩ ?_
      clear hK' K' a0 a1 a2 a3 f0 f1 f2 f3
      have hWB6 := four_set (u := .int .i64 (nthT l 0).1) (v := .int .i64 (nthT l 0).2.1) (s := .int .i64 (nthT l 0).2.2.1) (r := .bool (nthT l 0).2.2.2) hWB5
      have hWA6 := four_far (u := .int .i64 (nthT l 0).1) (v := .int .i64 (nthT l 0).2.1) (s := .int .i64 (nthT l 0).2.2.1) (r := .bool (nthT l 0).2.2.2) (show w4.heap.size ≠ (w4.heap.size + 1) by omega) hWA5
      clear hWA5 hWB5 hBW5 c0 c1 c2 c3
      generalize (((W5.setCell ⟨(w4.heap.size + 1), 0, none⟩ (.int .i64 (nthT l 0).1)).setCell ⟨(w4.heap.size + 1), 1, none⟩ (.int .i64 (nthT l 0).2.1)).setCell ⟨(w4.heap.size + 1), 2, none⟩ (.int .i64 (nthT l 0).2.2.1)).setCell ⟨(w4.heap.size + 1), 3, none⟩ (.bool (nthT l 0).2.2.2) = W6 at *
      refine wpAnyH_done (by kernel_rfl) ?_ _
      refine NoPanic.normal ?_
      go_wp2
      have g0 : ∀ j, j < 1 → geS (nthT l 0).2.1 (nthT l 0).2.2.1 (nthT l j) := fun j hj => by
        obtain rfl : j = 0 := by omega
        exact Int.le_refl _
      have g1 : ∀ j, j < 1 → leS (nthT l 0).2.1 (nthT l 0).2.2.1 (nthT l j) := fun j hj => by
        obtain rfl : j = 0 := by omega
        exact Int.le_refl _
      have HG := Lib.hid (show _ ∧ _ ∧ _ ∧ _ ∧ _ from ⟨g0, g1, hWA6, hWB6, hBW6⟩)
      clear g0 g1 hWA6 hWB6 hBW6
      go_loopw [14] (fun i wr => ∃ k u v : Nat, k ≤ len ∧ i = .int .i64 k ∧ u < len ∧ v < len ∧ wr.heap[w4.heap.size]? = some (.cells #[.int .i64 (nthT l u).1, .int .i64 (nthT l u).2.1, .int .i64 (nthT l u).2.2.1, .bool (nthT l u).2.2.2] 30 (0, 0)) ∧ wr.heap[(w4.heap.size + 1)]? = some (.cells #[.int .i64 (nthT l v).1, .int .i64 (nthT l v).2.1, .int .i64 (nthT l v).2.2.1, .bool (nthT l v).2.2.2] 30 (0, 0)) ∧ (∀ j, j < k → geS (nthT l u).2.1 (nthT l u).2.2.1 (nthT l j)) ∧ (∀ j, j < k → leS (nthT l v).2.1 (nthT l v).2.2.1 (nthT l j)) ∧ Below w.heap.size w wr) (fun i _ => len - (intOf i).toNat)
      case atStart => exact ⟨1, 0, 0, by omega, rfl, i00, i00, HG.out.2.2.1, HG.out.2.2.2.1, HG.out.1, HG.out.2.1, HG.out.2.2.2.2⟩
      case round =>
        obtain ⟨k, u, v, hk, rfl, hu, hv, hA, hB, hge, hle, hBr⟩ := hrel
        clear HG
        have hul : u < l.length := by rw [HH.out.2.2.2]; exact hu
        have hvl : v < l.length := by rw [HH.out.2.2.2]; exact hv
        have ou := (HH.out.1.2.2.2.2 u hul).1
        have ov := (HH.out.1.2.2.2.2 v hvl).1
        have a1 := blk_cell hA 1; have a2 := blk_cell hA 2
        have b1 := blk_cell hB 1; have b2 := blk_cell hB 2
        simp at a1 a2 b1 b2
        by_cases hlt : k < len
        · have hkl : k < l.length := by rw [HH.out.2.2.2]; exact hlt
          have ok := (HH.out.1.2.2.2.2 k hkl).1
          have i2 : (k : Int) < (len : Int) := by omega
          obtain ⟨c0, c1, c2, c3⟩ := (HM.out.1.grown hBr).2.2 k hlt
          have r0 := hBr.size
          have hdk : ∀ j, j < k → 0 ≤ (nthT l j).2.2.1 := fun j hj => by have := (HH.out.1.2.2.2.2 j (by omega)).1.2.2.2.2.1; omega
          have gu := mul_le1 ok.2.2.1 ok.2.2.2.1 ou.2.2.2.2.1 ou.2.2.2.2.2
          have gu' := mul_le1 ou.2.2.1 ou.2.2.2.1 ok.2.2.2.2.1 ok.2.2.2.2.2
          have gv := mul_le1 ok.2.2.1 ok.2.2.2.1 ov.2.2.2.2.1 ov.2.2.2.2.2
          have gv' := mul_le1 ov.2.2.1 ov.2.2.2.1 ok.2.2.2.2.1 ok.2.2.2.2.2
          have w1' : IntKind.i64.wrap ((nthT l k).2.1 * (nthT l u).2.2.1) = (nthT l k).2.1 * (nthT l u).2.2.1 := wrap_id (by omega)
          have w2' : IntKind.i64.wrap ((nthT l u).2.1 * (nthT l k).2.2.1) = (nthT l u).2.1 * (nthT l k).2.2.1 := wrap_id (by omega)
          have w3' : IntKind.i64.wrap ((nthT l k).2.1 * (nthT l v).2.2.1) = (nthT l k).2.1 * (nthT l v).2.2.1 := wrap_id (by omega)
          have w4' : IntKind.i64.wrap ((nthT l v).2.1 * (nthT l k).2.2.1) = (nthT l v).2.1 * (nthT l k).2.2.1 := wrap_id (by omega)
          have HF := Lib.hid (show _ ∧ _ ∧ _ ∧ _ ∧ _ ∧ _ ∧ _ ∧ _ ∧ _ from ⟨hA, hB, hge, hle, hBr, ou, ov, ok, hdk⟩)
          have uk : IntKind.i64.wrap ((k : Int) + 1) = (k : Int) + 1 := wrap_id (by omega)
          have f0 := blk_free hA 0; have f1 := blk_free hA 1; have f2 := blk_free hA 2; have f3 := blk_free hA 3
          have h0 := blk_free hB 0; have h1 := blk_free hB 1; have h2 := blk_free hB 2; have h3 := blk_free hB 3
          have a0 := blk_cell hA 0; have a3 := blk_cell hA 3
          have b0 := blk_cell hB 0; have b3 := blk_cell hB 3
          simp at a0 a3 b0 b3
          clear hA hB hge hle hBr ou ov ok gu gu' gv gv' hdk
          by_cases q1 : (nthT l k).2.1 * (nthT l u).2.2.1 < (nthT l u).2.1 * (nthT l k).2.2.1
          · have z1 : decide ((nthT l k).2.1 * (nthT l u).2.2.1 < (nthT l u).2.1 * (nthT l k).2.2.1) = true := decide_eq_true q1
            by_cases q2 : (nthT l v).2.1 * (nthT l k).2.2.1 < (nthT l k).2.1 * (nthT l v).2.2.1
            · have z2 : decide ((nthT l v).2.1 * (nthT l k).2.2.1 < (nthT l k).2.1 * (nthT l v).2.2.1) = true := decide_eq_true q2
              have HQ := Lib.hid (show _ ∧ _ from ⟨q1, q2⟩)
              clear q1 q2
              go_wp2
              go_quiet (fail)
              go_wp2
              go_quiet (fail)
              go_wp2
              go_roundw
              case rel => exact ⟨k + 1, k, k, by omega, by go_num, hlt, hlt, four_far (by omega) (four_set HF.out.1), four_set (four_far (by omega) HF.out.2.1), geS_new HF.out.2.2.1 HF.out.2.2.2.2.2.1 HF.out.2.2.2.2.2.2.2.1 HQ.out.1 HF.out.2.2.2.2.2.2.2.2, leS_new HF.out.2.2.2.1 HF.out.2.2.2.2.2.2.1 HF.out.2.2.2.2.2.2.2.1 HQ.out.2 HF.out.2.2.2.2.2.2.2.2, four_below (by omega) (below_drewN (four_below (by omega) (below_drewN HF.out.2.2.2.2.1)))⟩
              case measure => simp [intOf] <;> omega
            · have z2 : decide ((nthT l v).2.1 * (nthT l k).2.2.1 < (nthT l k).2.1 * (nthT l v).2.2.1) = false := decide_eq_false q2
              have HQ := Lib.hid (show _ ∧ _ from ⟨q1, q2⟩)
              clear q1 q2
              go_wp2
              go_quiet (fail)
              go_wp2
              go_quiet (fail)
              go_wp2
              go_roundw
              case rel => exact ⟨k + 1, k, v, by omega, by go_num, hlt, hv, four_set HF.out.1, four_far (by omega) HF.out.2.1, geS_new HF.out.2.2.1 HF.out.2.2.2.2.2.1 HF.out.2.2.2.2.2.2.2.1 HQ.out.1 HF.out.2.2.2.2.2.2.2.2, leS_old HF.out.2.2.2.1 (Int.not_lt.2 HQ.out.2), below_drewN (four_below (by omega) (below_drewN HF.out.2.2.2.2.1))⟩
              case measure => simp [intOf] <;> omega
          · have z1 : decide ((nthT l k).2.1 * (nthT l u).2.2.1 < (nthT l u).2.1 * (nthT l k).2.2.1) = false := decide_eq_false q1
            by_cases q2 : (nthT l v).2.1 * (nthT l k).2.2.1 < (nthT l k).2.1 * (nthT l v).2.2.1
            · have z2 : decide ((nthT l v).2.1 * (nthT l k).2.2.1 < (nthT l k).2.1 * (nthT l v).2.2.1) = true := decide_eq_true q2
              have HQ := Lib.hid (show _ ∧ _ from ⟨q1, q2⟩)
              clear q1 q2
              go_wp2
              go_quiet (fail)
              go_wp2
              go_quiet (fail)
              go_wp2
              go_roundw
              case rel => exact ⟨k + 1, u, k, by omega, by go_num, hu, hlt, four_far (by omega) HF.out.1, four_set HF.out.2.1, geS_old HF.out.2.2.1 (Int.not_lt.2 HQ.out.1), leS_new HF.out.2.2.2.1 HF.out.2.2.2.2.2.2.1 HF.out.2.2.2.2.2.2.2.1 HQ.out.2 HF.out.2.2.2.2.2.2.2.2, four_below (by omega) (below_drewN HF.out.2.2.2.2.1)⟩
              case measure => simp [intOf] <;> omega
            · have z2 : decide ((nthT l v).2.1 * (nthT l k).2.2.1 < (nthT l k).2.1 * (nthT l v).2.2.1) = false := decide_eq_false q2
              have HQ := Lib.hid (show _ ∧ _ from ⟨q1, q2⟩)
              clear q1 q2
              go_wp2
              go_quiet (fail)
              go_wp2
              go_quiet (fail)
              go_wp2
              go_roundw
              case rel => exact ⟨k + 1, u, v, by omega, by go_num, hu, hv, HF.out.1, HF.out.2.1, geS_old HF.out.2.2.1 (Int.not_lt.2 HQ.out.1), leS_old HF.out.2.2.2.1 (Int.not_lt.2 HQ.out.2), below_drewN HF.out.2.2.2.2.1⟩
              case measure => simp [intOf] <;> omega
        · obtain rfl : k = len := by omega
          have hlo := HH.out.2.1 _ _ (show 0 < (nthT l u).2.2.1 by have := ou.2.2.2.2.1; omega) (fun i hi => hge i (by rw [← HH.out.2.2.2]; exact hi))
          have hhi := HH.out.2.2.1 _ _ (show 0 < (nthT l v).2.2.1 by have := ov.2.2.2.2.1; omega) (fun i hi => hle i (by rw [← HH.out.2.2.2]; exact hi))
          rw [HH.out.2.2.2] at hlo hhi
          generalize hT : q - p = T at *
          have t1 : T ≤ 16777216 := by omega
          have tu := mul_le (show 0 ≤ T by omega) t1 (show 0 ≤ (nthT l u).2.1 by have := ou.2.2.1; omega) ou.2.2.2.1
          have tv := mul_le (show 0 ≤ T by omega) t1 (show 0 ≤ (nthT l v).2.1 by have := ov.2.2.1; omega) ov.2.2.2.1
          have du1 := ou.2.2.2.2.1; have dv1 := ov.2.2.2.2.1
          clear ou ov hge hle hA hB
          generalize (nthT l u).2.1 = uN at *
          generalize (nthT l u).2.2.1 = uD at *
          generalize (nthT l v).2.1 = vN at *
          generalize (nthT l v).2.2.1 = vD at *
          have w1' : IntKind.i64.wrap (T * uN) = T * uN := wrap_id (by omega)
          have w2' : IntKind.i64.wrap (T * vN) = T * vN := wrap_id (by omega)
          have w3' : Int.tdiv (T * uN) uD = T * uN / uD := Int.tdiv_eq_ediv_of_nonneg tu.1
          have w4' : Int.tdiv (T * vN) vD = T * vN / vD := Int.tdiv_eq_ediv_of_nonneg tv.1
          have qu0 : 0 ≤ T * uN / uD := Int.ediv_nonneg tu.1 (by omega)
          have qv0 : 0 ≤ T * vN / vD := Int.ediv_nonneg tv.1 (by omega)
          have qu1 : T * uN / uD ≤ T * uN := Int.ediv_le_self _ tu.1
          have qv1 : T * vN / vD ≤ T * vN := Int.ediv_le_self _ tv.1
          have w5' : IntKind.i64.wrap (Y - X) = Y - X := wrap_id (by omega)
          have w6' : IntKind.i64.wrap (T * uN / uD - (k : Int)) = T * uN / uD - (k : Int) := wrap_id (by omega)
          have w7' : IntKind.i64.wrap (T * vN / vD + (k : Int)) = T * vN / vD + (k : Int) := wrap_id (by omega)
          have du0 : (uD == 0) = false := by simp; omega
          have dv0 : (vD == 0) = false := by simp; omega
          have z3 : wrap64 (wrap64 (T * uN / uD) - (k : Int)) ≤ Y - X := by
            rw [IntWalk.wrap64_in (T * uN / uD) (by omega), IntWalk.wrap64_in _ (by omega)]; omega
          have z4 : decide (Y - X ≤ T * vN / vD + (k : Int)) = true := decide_eq_true (by omega)
          have e8 : wrap64 (T * vN / vD) = T * vN / vD := IntWalk.wrap64_in _ (by omega)
          have e9 : wrap64 (T * vN / vD + (k : Int)) = T * vN / vD + (k : Int) := IntWalk.wrap64_in _ (by omega)
          have HBr := Lib.hid hBr
          clear hBr hlo hhi tu tv qu0 qv0 qu1 qv1
          have HE := Lib.hid (show _ ∧ _ ∧ _ from ⟨e8, e9, z4⟩)
          clear e8 e9 z4
          go_wp2
          go_ret
          exact ⟨by rw [HE.out.1, HE.out.2.1, HE.out.2.2]; rfl, HBr.out⟩
    · go_simp
      refine hK' _ _ ⟨cell_alloc_keep c0 _, cell_alloc_keep c1 _, cell_alloc_keep c2 _, cell_alloc_keep c3 _⟩ ?_
      clear hK' K'
      refine wpAnyH_one (i := 6) (by kernel_rfl) rfl (by kernel_rfl) (fun K' hK' => ?_)
      go_simp
      refine hK' _ _ ⟨cell_alloc_keep (cell_alloc_keep c0 _) _, cell_alloc_keep (cell_alloc_keep c1 _) _, cell_alloc_keep (cell_alloc_keep c2 _) _, cell_alloc_keep (cell_alloc_keep c3 _) _⟩ ?_
      clear hK' K'
      generalize hW : ((w4.alloc (.cells #[.int .i64 0, .int .i64 0, .int .i64 0, .bool false] 30)).alloc (.cells #[.int .i64 0, .int .i64 0, .int .i64 0, .bool false] 30)).drew = W
      have hAB : (w4.heap.size + 1) ≠ w4.heap.size := by omega
      have hWA : W.heap[(w4.heap.size + 1)]? = some (.cells #[.int .i64 0, .int .i64 0, .int .i64 0, .bool false] 30 (0, 0)) := by rw [← hW]; exact n2
      have hWB : W.heap[w4.heap.size]? = some (.cells #[.int .i64 0, .int .i64 0, .int .i64 0, .bool false] 30 (0, 0)) := by rw [← hW]; exact blk_alloc n1 _
      have hBW : Below w.heap.size w W := by rw [← hW]; exact (((hB0.alloc hB0.size _).alloc (by simp; have := hB0.size; omega) _)).drew
      have hs0 := hB0.size
      clear hW n1 n2 hB hB0 c0 c1 c2 c3
      have a0 := blk_cell hWA 0; have a1 := blk_cell hWA 1; have a2 := blk_cell hWA 2; have a3 := blk_cell hWA 3
      have f0 := blk_free hWA 0; have f1 := blk_free hWA 1; have f2 := blk_free hWA 2; have f3 := blk_free hWA 3
      simp at a0 a1 a2 a3
      refine wpAnyH_one (i := 8) (by kernel_rfl) rfl (by kernel_rfl) (fun K' hK' => ?_)
      go_simp
      have hBW5 := four_below (u := .int .i64 (nthT l 0).1) (v := .int .i64 (nthT l 0).2.1) (s := .int .i64 (nthT l 0).2.2.1) (t := .bool (nthT l 0).2.2.2) (b := (w4.heap.size + 1)) (by omega) hBW
      obtain ⟨c0, c1, c2, c3⟩ := (HM.out.1.grown hBW5).2.2 0 i00
      simp only [Nat.zero_mul, Nat.add_zero] at c0 c1 c2 c3
      refine hK' _ _ ⟨c0, c1, c2, c3⟩ ?_
      clear hK' K' a0 a1 a2 a3 f0 f1 f2 f3
      have hWA5 := four_set (u := .int .i64 (nthT l 0).1) (v := .int .i64 (nthT l 0).2.1) (s := .int .i64 (nthT l 0).2.2.1) (r := .bool (nthT l 0).2.2.2) hWA
      have hWB5 := four_far (u := .int .i64 (nthT l 0).1) (v := .int .i64 (nthT l 0).2.1) (s := .int .i64 (nthT l 0).2.2.1) (r := .bool (nthT l 0).2.2.2) (show w4.heap.size ≠ (w4.heap.size + 1) by omega) hWB
      have a0 := blk_cell hWB5 0; have a1 := blk_cell hWB5 1; have a2 := blk_cell hWB5 2; have a3 := blk_cell hWB5 3
      have f0 := blk_free hWB5 0; have f1 := blk_free hWB5 1; have f2 := blk_free hWB5 2; have f3 := blk_free hWB5 3
      simp at a0 a1 a2 a3
      clear hWA hWB hBW c0 c1 c2 c3
      generalize (((W.setCell ⟨(w4.heap.size + 1), 0, none⟩ (.int .i64 (nthT l 0).1)).setCell ⟨(w4.heap.size + 1), 1, none⟩ (.int .i64 (nthT l 0).2.1)).setCell ⟨(w4.heap.size + 1), 2, none⟩ (.int .i64 (nthT l 0).2.2.1)).setCell ⟨(w4.heap.size + 1), 3, none⟩ (.bool (nthT l 0).2.2.2) = W5 at *
      refine wpAnyH_one (i := 9) (by kernel_rfl) rfl (by kernel_rfl) (fun K' hK' => ?_)
      go_simp
      have hBW6 := four_below (u := .int .i64 (nthT l 0).1) (v := .int .i64 (nthT l 0).2.1) (s := .int .i64 (nthT l 0).2.2.1) (t := .bool (nthT l 0).2.2.2) (b := w4.heap.size) (by omega) hBW5
      obtain ⟨c0, c1, c2, c3⟩ := (HM.out.1.grown hBW6).2.2 0 i00
      simp only [Nat.zero_mul, Nat.add_zero] at c0 c1 c2 c3
      refine hK' _ _ ⟨c0, c1, c2, c3⟩ ?_
      clear hK' K' a0 a1 a2 a3 f0 f1 f2 f3
      have hWB6 := four_set (u := .int .i64 (nthT l 0).1) (v := .int .i64 (nthT l 0).2.1) (s := .int .i64 (nthT l 0).2.2.1) (r := .bool (nthT l 0).2.2.2) hWB5
      have hWA6 := four_far (u := .int .i64 (nthT l 0).1) (v := .int .i64 (nthT l 0).2.1) (s := .int .i64 (nthT l 0).2.2.1) (r := .bool (nthT l 0).2.2.2) (show (w4.heap.size + 1) ≠ w4.heap.size by omega) hWA5
      clear hWA5 hWB5 hBW5 c0 c1 c2 c3
      generalize (((W5.setCell ⟨w4.heap.size, 0, none⟩ (.int .i64 (nthT l 0).1)).setCell ⟨w4.heap.size, 1, none⟩ (.int .i64 (nthT l 0).2.1)).setCell ⟨w4.heap.size, 2, none⟩ (.int .i64 (nthT l 0).2.2.1)).setCell ⟨w4.heap.size, 3, none⟩ (.bool (nthT l 0).2.2.2) = W6 at *
      refine wpAnyH_done (by kernel_rfl) ?_ _
      refine NoPanic.normal ?_
      go_wp2
      have g0 : ∀ j, j < 1 → geS (nthT l 0).2.1 (nthT l 0).2.2.1 (nthT l j) := fun j hj => by
        obtain rfl : j = 0 := by omega
        exact Int.le_refl _
      have g1 : ∀ j, j < 1 → leS (nthT l 0).2.1 (nthT l 0).2.2.1 (nthT l j) := fun j hj => by
        obtain rfl : j = 0 := by omega
        exact Int.le_refl _
      have HG := Lib.hid (show _ ∧ _ ∧ _ ∧ _ ∧ _ from ⟨g0, g1, hWA6, hWB6, hBW6⟩)
      clear g0 g1 hWA6 hWB6 hBW6
      go_loopw [14] (fun i wr => ∃ k u v : Nat, k ≤ len ∧ i = .int .i64 k ∧ u < len ∧ v < len ∧ wr.heap[(w4.heap.size + 1)]? = some (.cells #[.int .i64 (nthT l u).1, .int .i64 (nthT l u).2.1, .int .i64 (nthT l u).2.2.1, .bool (nthT l u).2.2.2] 30 (0, 0)) ∧ wr.heap[w4.heap.size]? = some (.cells #[.int .i64 (nthT l v).1, .int .i64 (nthT l v).2.1, .int .i64 (nthT l v).2.2.1, .bool (nthT l v).2.2.2] 30 (0, 0)) ∧ (∀ j, j < k → geS (nthT l u).2.1 (nthT l u).2.2.1 (nthT l j)) ∧ (∀ j, j < k → leS (nthT l v).2.1 (nthT l v).2.2.1 (nthT l j)) ∧ Below w.heap.size w wr) (fun i _ => len - (intOf i).toNat)
      case atStart => exact ⟨1, 0, 0, by omega, rfl, i00, i00, HG.out.2.2.1, HG.out.2.2.2.1, HG.out.1, HG.out.2.1, HG.out.2.2.2.2⟩
      case round =>
        obtain ⟨k, u, v, hk, rfl, hu, hv, hA, hB, hge, hle, hBr⟩ := hrel
        clear HG
        have hul : u < l.length := by rw [HH.out.2.2.2]; exact hu
        have hvl : v < l.length := by rw [HH.out.2.2.2]; exact hv
        have ou := (HH.out.1.2.2.2.2 u hul).1
        have ov := (HH.out.1.2.2.2.2 v hvl).1
        have a1 := blk_cell hA 1; have a2 := blk_cell hA 2
        have b1 := blk_cell hB 1; have b2 := blk_cell hB 2
        simp at a1 a2 b1 b2
        by_cases hlt : k < len
        · have hkl : k < l.length := by rw [HH.out.2.2.2]; exact hlt
          have ok := (HH.out.1.2.2.2.2 k hkl).1
          have i2 : (k : Int) < (len : Int) := by omega
          obtain ⟨c0, c1, c2, c3⟩ := (HM.out.1.grown hBr).2.2 k hlt
          have r0 := hBr.size
          have hdk : ∀ j, j < k → 0 ≤ (nthT l j).2.2.1 := fun j hj => by have := (HH.out.1.2.2.2.2 j (by omega)).1.2.2.2.2.1; omega
          have gu := mul_le1 ok.2.2.1 ok.2.2.2.1 ou.2.2.2.2.1 ou.2.2.2.2.2
          have gu' := mul_le1 ou.2.2.1 ou.2.2.2.1 ok.2.2.2.2.1 ok.2.2.2.2.2
          have gv := mul_le1 ok.2.2.1 ok.2.2.2.1 ov.2.2.2.2.1 ov.2.2.2.2.2
          have gv' := mul_le1 ov.2.2.1 ov.2.2.2.1 ok.2.2.2.2.1 ok.2.2.2.2.2
          have w1' : IntKind.i64.wrap ((nthT l k).2.1 * (nthT l u).2.2.1) = (nthT l k).2.1 * (nthT l u).2.2.1 := wrap_id (by omega)
          have w2' : IntKind.i64.wrap ((nthT l u).2.1 * (nthT l k).2.2.1) = (nthT l u).2.1 * (nthT l k).2.2.1 := wrap_id (by omega)
          have w3' : IntKind.i64.wrap ((nthT l k).2.1 * (nthT l v).2.2.1) = (nthT l k).2.1 * (nthT l v).2.2.1 := wrap_id (by omega)
          have w4' : IntKind.i64.wrap ((nthT l v).2.1 * (nthT l k).2.2.1) = (nthT l v).2.1 * (nthT l k).2.2.1 := wrap_id (by omega)
          have HF := Lib.hid (show _ ∧ _ ∧ _ ∧ _ ∧ _ ∧ _ ∧ _ ∧ _ ∧ _ from ⟨hA, hB, hge, hle, hBr, ou, ov, ok, hdk⟩)
          have uk : IntKind.i64.wrap ((k : Int) + 1) = (k : Int) + 1 := wrap_id (by omega)
          have f0 := blk_free hA 0; have f1 := blk_free hA 1; have f2 := blk_free hA 2; have f3 := blk_free hA 3
          have h0 := blk_free hB 0; have h1 := blk_free hB 1; have h2 := blk_free hB 2; have h3 := blk_free hB 3
          have a0 := blk_cell hA 0; have a3 := blk_cell hA 3
          have b0 := blk_cell hB 0; have b3 := blk_cell hB 3
          simp at a0 a3 b0 b3
          clear hA hB hge hle hBr ou ov ok gu gu' gv gv' hdk
          by_cases q1 : (nthT l k).2.1 * (nthT l u).2.2.1 < (nthT l u).2.1 * (nthT l k).2.2.1
          · have z1 : decide ((nthT l k).2.1 * (nthT l u).2.2.1 < (nthT l u).2.1 * (nthT l k).2.2.1) = true := decide_eq_true q1
            by_cases q2 : (nthT l v).2.1 * (nthT l k).2.2.1 < (nthT l k).2.1 * (nthT l v).2.2.1
            · have z2 : decide ((nthT l v).2.1 * (nthT l k).2.2.1 < (nthT l k).2.1 * (nthT l v).2.2.1) = true := decide_eq_true q2
              have HQ := Lib.hid (show _ ∧ _ from ⟨q1, q2⟩)
              clear q1 q2
              go_wp2
              go_quiet (fail)
              go_wp2
              go_quiet (fail)
              go_wp2
              go_roundw
              case rel => exact ⟨k + 1, k, k, by omega, by go_num, hlt, hlt, four_far (by omega) (four_set HF.out.1), four_set (four_far (by omega) HF.out.2.1), geS_new HF.out.2.2.1 HF.out.2.2.2.2.2.1 HF.out.2.2.2.2.2.2.2.1 HQ.out.1 HF.out.2.2.2.2.2.2.2.2, leS_new HF.out.2.2.2.1 HF.out.2.2.2.2.2.2.1 HF.out.2.2.2.2.2.2.2.1 HQ.out.2 HF.out.2.2.2.2.2.2.2.2, four_below (by omega) (below_drewN (four_below (by omega) (below_drewN HF.out.2.2.2.2.1)))⟩
              case measure => simp [intOf] <;> omega
            · have z2 : decide ((nthT l v).2.1 * (nthT l k).2.2.1 < (nthT l k).2.1 * (nthT l v).2.2.1) = false := decide_eq_false q2
              have HQ := Lib.hid (show _ ∧ _ from ⟨q1, q2⟩)
              clear q1 q2
              go_wp2
              go_quiet (fail)
              go_wp2
              go_quiet (fail)
              go_wp2
              go_roundw
              case rel => exact ⟨k + 1, k, v, by omega, by go_num, hlt, hv, four_set HF.out.1, four_far (by omega) HF.out.2.1, geS_new HF.out.2.2.1 HF.out.2.2.2.2.2.1 HF.out.2.2.2.2.2.2.2.1 HQ.out.1 HF.out.2.2.2.2.2.2.2.2, leS_old HF.out.2.2.2.1 (Int.not_lt.2 HQ.out.2), below_drewN (four_below (by omega) (below_drewN HF.out.2.2.2.2.1))⟩
              case measure => simp [intOf] <;> omega
          · have z1 : decide ((nthT l k).2.1 * (nthT l u).2.2.1 < (nthT l u).2.1 * (nthT l k).2.2.1) = false := decide_eq_false q1
            by_cases q2 : (nthT l v).2.1 * (nthT l k).2.2.1 < (nthT l k).2.1 * (nthT l v).2.2.1
            · have z2 : decide ((nthT l v).2.1 * (nthT l k).2.2.1 < (nthT l k).2.1 * (nthT l v).2.2.1) = true := decide_eq_true q2
              have HQ := Lib.hid (show _ ∧ _ from ⟨q1, q2⟩)
              clear q1 q2
              go_wp2
              go_quiet (fail)
              go_wp2
              go_quiet (fail)
              go_wp2
              go_roundw
              case rel => exact ⟨k + 1, u, k, by omega, by go_num, hu, hlt, four_far (by omega) HF.out.1, four_set HF.out.2.1, geS_old HF.out.2.2.1 (Int.not_lt.2 HQ.out.1), leS_new HF.out.2.2.2.1 HF.out.2.2.2.2.2.2.1 HF.out.2.2.2.2.2.2.2.1 HQ.out.2 HF.out.2.2.2.2.2.2.2.2, four_below (by omega) (below_drewN HF.out.2.2.2.2.1)⟩
              case measure => simp [intOf] <;> omega
            · have z2 : decide ((nthT l v).2.1 * (nthT l k).2.2.1 < (nthT l k).2.1 * (nthT l v).2.2.1) = false := decide_eq_false q2
              have HQ := Lib.hid (show _ ∧ _ from ⟨q1, q2⟩)
              clear q1 q2
              go_wp2
              go_quiet (fail)
              go_wp2
              go_quiet (fail)
              go_wp2
              go_roundw
              case rel => exact ⟨k + 1, u, v, by omega, by go_num, hu, hv, HF.out.1, HF.out.2.1, geS_old HF.out.2.2.1 (Int.not_lt.2 HQ.out.1), leS_old HF.out.2.2.2.1 (Int.not_lt.2 HQ.out.2), below_drewN HF.out.2.2.2.2.1⟩
              case measure => simp [intOf] <;> omega
        · obtain rfl : k = len := by omega
          have hlo := HH.out.2.1 _ _ (show 0 < (nthT l u).2.2.1 by have := ou.2.2.2.2.1; omega) (fun i hi => hge i (by rw [← HH.out.2.2.2]; exact hi))
          have hhi := HH.out.2.2.1 _ _ (show 0 < (nthT l v).2.2.1 by have := ov.2.2.2.2.1; omega) (fun i hi => hle i (by rw [← HH.out.2.2.2]; exact hi))
          rw [HH.out.2.2.2] at hlo hhi
          generalize hT : q - p = T at *
          have t1 : T ≤ 16777216 := by omega
          have tu := mul_le (show 0 ≤ T by omega) t1 (show 0 ≤ (nthT l u).2.1 by have := ou.2.2.1; omega) ou.2.2.2.1
          have tv := mul_le (show 0 ≤ T by omega) t1 (show 0 ≤ (nthT l v).2.1 by have := ov.2.2.1; omega) ov.2.2.2.1
          have du1 := ou.2.2.2.2.1; have dv1 := ov.2.2.2.2.1
          clear ou ov hge hle hA hB
          generalize (nthT l u).2.1 = uN at *
          generalize (nthT l u).2.2.1 = uD at *
          generalize (nthT l v).2.1 = vN at *
          generalize (nthT l v).2.2.1 = vD at *
          have w1' : IntKind.i64.wrap (T * uN) = T * uN := wrap_id (by omega)
          have w2' : IntKind.i64.wrap (T * vN) = T * vN := wrap_id (by omega)
          have w3' : Int.tdiv (T * uN) uD = T * uN / uD := Int.tdiv_eq_ediv_of_nonneg tu.1
          have w4' : Int.tdiv (T * vN) vD = T * vN / vD := Int.tdiv_eq_ediv_of_nonneg tv.1
          have qu0 : 0 ≤ T * uN / uD := Int.ediv_nonneg tu.1 (by omega)
          have qv0 : 0 ≤ T * vN / vD := Int.ediv_nonneg tv.1 (by omega)
          have qu1 : T * uN / uD ≤ T * uN := Int.ediv_le_self _ tu.1
          have qv1 : T * vN / vD ≤ T * vN := Int.ediv_le_self _ tv.1
          have w5' : IntKind.i64.wrap (Y - X) = Y - X := wrap_id (by omega)
          have w6' : IntKind.i64.wrap (T * uN / uD - (k : Int)) = T * uN / uD - (k : Int) := wrap_id (by omega)
          have w7' : IntKind.i64.wrap (T * vN / vD + (k : Int)) = T * vN / vD + (k : Int) := wrap_id (by omega)
          have du0 : (uD == 0) = false := by simp; omega
          have dv0 : (vD == 0) = false := by simp; omega
          have z3 : wrap64 (wrap64 (T * uN / uD) - (k : Int)) ≤ Y - X := by
            rw [IntWalk.wrap64_in (T * uN / uD) (by omega), IntWalk.wrap64_in _ (by omega)]; omega
          have z4 : decide (Y - X ≤ T * vN / vD + (k : Int)) = true := decide_eq_true (by omega)
          have e8 : wrap64 (T * vN / vD) = T * vN / vD := IntWalk.wrap64_in _ (by omega)
          have e9 : wrap64 (T * vN / vD + (k : Int)) = T * vN / vD + (k : Int) := IntWalk.wrap64_in _ (by omega)
          have HBr := Lib.hid hBr
          clear hBr hlo hhi tu tv qu0 qv0 qu1 qv1
          have HE := Lib.hid (show _ ∧ _ ∧ _ from ⟨e8, e9, z4⟩)
          clear e8 e9 z4
          go_wp2
          go_ret
          exact ⟨by rw [HE.out.1, HE.out.2.1, HE.out.2.2]; rfl, HBr.out⟩
  · subst hpq
    have g1 : p ≤ p := Int.le_refl _
    go_wp2_with fail
    refine (tsample_any a b off len cap l p _ (HM.out.1.grown hB) hn (blk_has HM.out.2 hB)).mono ?_; rintro e w2 ⟨rfl, hb⟩
    replace hB := below_after hB hb hB.size
    clear hb
    go_wp2_with fail
    refine (tsample_any a b off len cap l p _ (HM.out.1.grown hB) hn (blk_has HM.out.2 hB)).mono ?_; rintro e w3 ⟨rfl, hb⟩
    replace hB := below_after hB hb hB.size
    clear hb
    rcases s_cases l p with ⟨k1, k2⟩ | ⟨k1, k2, k3, k4, k5⟩
    · rw [k2]
      have z9 : (sE l p != 0) = true := by simp [k1]
      clear k1 k2
      go_wp2
      go_ret
      exact ⟨rfl, hB⟩
    rw [k4, k5]
    clear k4 k5
    have m3 := k3
    have hmono := smp_mono k1 k2.1 (show p ≤ p by omega)
    have hlo := fun (N D : Int) (hD : 0 < D) (hg : ∀ i, i < l.length → geS N D (nthT l i)) => smp_lo k1 hD hg k2.1 (show p ≤ p by omega)
    have hhi := fun (N D : Int) (hD : 0 < D) (hg : ∀ i, i < l.length → leS N D (nthT l i)) => smp_hi k1 hD hg k2.1 (show p ≤ p by omega)
    have hx0 := smp_nn k1 k2.1
    obtain ⟨X, hX⟩ : ∃ X, X = smp l p := ⟨_, rfl⟩
    obtain ⟨Y, hY⟩ : ∃ Y, Y = smp l p := ⟨_, rfl⟩
    rw [← hX] at hmono hlo hhi
    rw [← hX]
    rw [← hX] at k3 hx0 m3
    have hl := HM.out.1.1
    have hl64 : len ≤ 64 := by rw [← hl]; exact k1.2.1
    have hl1 : 1 ≤ len := by rw [← hl]; exact k1.1
    have HH := Lib.hid (show _ ∧ _ ∧ _ ∧ _ from ⟨k1, hlo, hhi, hl⟩)
    have HX := Lib.hid (show _ ∧ _ from ⟨hX, hY⟩)
    clear hlo hhi k1 hX hY hl
    go_wp2_with fail
    refine (rcheck_any a len cap b off l _ (HM.out.1.grown hB) hn).mono ?_; rintro e w4 ⟨rfl, hb⟩
    replace hB := below_after hB hb hB.size
    clear hb
    rw [chk_yes HH.out.1]
    have ut : IntKind.i64.wrap (p - p) = p - p := wrap_id (by omega)
    have hp0 := (HH.out.1.2.2.2.2 0 (by rw [HH.out.2.2.2]; omega)).1
    obtain ⟨c0, c1, c2, c3⟩ := (HM.out.1.grown hB).2.2 0 (by omega)
    simp only [Nat.zero_mul, Nat.add_zero] at c0 c1 c2 c3
    obtain ⟨rfl, hbw⟩ := HM.out.1.2.1 (by omega)
    have hB0 := hB
    have hbw4 : b < w4.heap.size := Nat.lt_of_lt_of_le hbw hB.size
    go_wp2_with fail
    refine wp_region_from 0 6 (fun w' => w'.cell? ⟨b, off, none⟩ = some (.int .i64 (nthT l 0).1) ∧ w'.cell? ⟨b, off + 1, none⟩ = some (.int .i64 (nthT l 0).2.1) ∧ w'.cell? ⟨b, off + 2, none⟩ = some (.int .i64 (nthT l 0).2.2.1) ∧ w'.cell? ⟨b, off + 3, none⟩ = some (.bool (nthT l 0).2.2.2)) (by kernel_rfl) (by kernel_rfl) (by decide) (by kernel_rfl) ⟨c0, c1, c2, c3⟩ ?_
    simp only [List.drop_zero, List.take_succ_cons, List.take_zero]
    have i0 : (0 : Int) < (len : Int) := by omega
    have i00 : 0 < len := by omega
    refine wpHeld_cons (.slice (some ⟨b, off, none⟩) len cap) (by kernel_rfl) ?_ ?_
    · rintro w' ⟨s0, s1, s2, s3⟩
      try go_simp
    refine wpHeld_cons (.pointer (some ⟨b, off, none⟩)) (by kernel_rfl) ?_ ?_
    · rintro w' ⟨s0, s1, s2, s3⟩
      try go_simp
    refine wpHeld_cons (.agg #[.int .i64 (nthT l 0).1, .int .i64 (nthT l 0).2.1, .int .i64 (nthT l 0).2.2.1, .bool (nthT l 0).2.2.2]) (by kernel_rfl) ?_ ?_
    · rintro w' ⟨s0, s1, s2, s3⟩
      try go_simp
    refine wpHeld_cons (.slice (some ⟨b, off, none⟩) len cap) (by kernel_rfl) ?_ ?_
    · rintro w' ⟨s0, s1, s2, s3⟩
      try go_simp
    refine wpHeld_cons (.pointer (some ⟨b, off, none⟩)) (by kernel_rfl) ?_ ?_
    · rintro w' ⟨s0, s1, s2, s3⟩
      try go_simp
    refine wpHeld_cons (.agg #[.int .i64 (nthT l 0).1, .int .i64 (nthT l 0).2.1, .int .i64 (nthT l 0).2.2.1, .bool (nthT l 0).2.2.2]) (by kernel_rfl) ?_ ?_
    · rintro w' ⟨s0, s1, s2, s3⟩
      try go_simp
    refine wpHeld_nil ?_
    go_simp
    have n1 := blk_new w4.drew (.cells #[.int .i64 0, .int .i64 0, .int .i64 0, .bool false] 30)
    have n2 := blk_new (w4.drew.alloc (.cells #[.int .i64 0, .int .i64 0, .int .i64 0, .bool false] 30)) (.cells #[.int .i64 0, .int .i64 0, .int .i64 0, .bool false] 30)
    rw [World.size_alloc] at n2
    refine wpAnyH_two (i := 6) (j := 7) (by kernel_rfl) rfl rfl (by kernel_rfl) (by kernel_rfl) (fun K' hK' => ?_) (fun K' hK' => ?_)
    · go_simp
      refine hK' _ _ ⟨cell_alloc_keep c0 _, cell_alloc_keep c1 _, cell_alloc_keep c2 _, cell_alloc_keep c3 _⟩ ?_
      clear hK' K'
      refine wpAnyH_one (i := 7) (by kernel_rfl) rfl (by kernel_rfl) (fun K' hK' => ?_)
      go_simp
      refine hK' _ _ ⟨cell_alloc_keep (cell_alloc_keep c0 _) _, cell_alloc_keep (cell_alloc_keep c1 _) _, cell_alloc_keep (cell_alloc_keep c2 _) _, cell_alloc_keep (cell_alloc_keep c3 _) _⟩ ?_
      clear hK' K'
      generalize hW : ((w4.alloc (.cells #[.int .i64 0, .int .i64 0, .int .i64 0, .bool false] 30)).alloc (.cells #[.int .i64 0, .int .i64 0, .int .i64 0, .bool false] 30)).drew = W
      have hAB : w4.heap.size ≠ (w4.heap.size + 1) := by omega
      have hWA : W.heap[w4.heap.size]? = some (.cells #[.int .i64 0, .int .i64 0, .int .i64 0, .bool false] 30 (0, 0)) := by rw [← hW]; exact blk_alloc n1 _
      have hWB : W.heap[(w4.heap.size + 1)]? = some (.cells #[.int .i64 0, .int .i64 0, .int .i64 0, .bool false] 30 (0, 0)) := by rw [← hW]; exact n2
      have hBW : Below w.heap.size w W := by rw [← hW]; exact (((hB0.alloc hB0.size _).alloc (by simp; have := hB0.size; omega) _)).drew
      have hs0 := hB0.size
      clear hW n1 n2 hB hB0 c0 c1 c2 c3
      have a0 := blk_cell hWA 0; have a1 := blk_cell hWA 1; have a2 := blk_cell hWA 2; have a3 := blk_cell hWA 3
      have f0 := blk_free hWA 0; have f1 := blk_free hWA 1; have f2 := blk_free hWA 2; have f3 := blk_free hWA 3
      simp at a0 a1 a2 a3
      refine wpAnyH_one (i := 8) (by kernel_rfl) rfl (by kernel_rfl) (fun K' hK' => ?_)
      go_simp
      have hBW5 := four_below (u := .int .i64 (nthT l 0).1) (v := .int .i64 (nthT l 0).2.1) (s := .int .i64 (nthT l 0).2.2.1) (t := .bool (nthT l 0).2.2.2) (b := w4.heap.size) (by omega) hBW
      obtain ⟨c0, c1, c2, c3⟩ := (HM.out.1.grown hBW5).2.2 0 i00
      simp only [Nat.zero_mul, Nat.add_zero] at c0 c1 c2 c3
      refine hK' _ _ ⟨c0, c1, c2, c3⟩ ?_
      clear hK' K' a0 a1 a2 a3 f0 f1 f2 f3
      have hWA5 := four_set (u := .int .i64 (nthT l 0).1) (v := .int .i64 (nthT l 0).2.1) (s := .int .i64 (nthT l 0).2.2.1) (r := .bool (nthT l 0).2.2.2) hWA
      have hWB5 := four_far (u := .int .i64 (nthT l 0).1) (v := .int .i64 (nthT l 0).2.1) (s := .int .i64 (nthT l 0).2.2.1) (r := .bool (nthT l 0).2.2.2) (show (w4.heap.size + 1) ≠ w4.heap.size by omega) hWB
      have a0 := blk_cell hWB5 0; have a1 := blk_cell hWB5 1; have a2 := blk_cell hWB5 2; have a3 := blk_cell hWB5 3
      have f0 := blk_free hWB5 0; have f1 := blk_free hWB5 1; have f2 := blk_free hWB5 2; have f3 := blk_free hWB5 3
      simp at a0 a1 a2 a3
      clear hWA hWB hBW c0 c1 c2 c3
      generalize (((W.setCell ⟨w4.heap.size, 0, none⟩ (.int .i64 (nthT l 0).1)).setCell ⟨w4.heap.size, 1, none⟩ (.int .i64 (nthT l 0).2.1)).setCell ⟨w4.heap.size, 2, none⟩ (.int .i64 (nthT l 0).2.2.1)).setCell ⟨w4.heap.size, 3, none⟩ (.bool (nthT l 0).2.2.2) = W5 at *
      refine wpAnyH_one (i := 9) (by kernel_rfl) rfl (by kernel_rfl) (fun K' hK' => ?_)
      go_simp
      have hBW6 := four_below (u := .int .i64 (nthT l 0).1) (v := .int .i64 (nthT l 0).2.1) (s := .int .i64 (nthT l 0).2.2.1) (t := .bool (nthT l 0).2.2.2) (b := (w4.heap.size + 1)) (by omega) hBW5
      obtain ⟨c0, c1, c2, c3⟩ := (HM.out.1.grown hBW6).2.2 0 i00
      simp only [Nat.zero_mul, Nat.add_zero] at c0 c1 c2 c3
      refine hK' _ _ ⟨c0, c1, c2, c3⟩ ?_
      clear hK' K' a0 a1 a2 a3 f0 f1 f2 f3
      have hWB6 := four_set (u := .int .i64 (nthT l 0).1) (v := .int .i64 (nthT l 0).2.1) (s := .int .i64 (nthT l 0).2.2.1) (r := .bool (nthT l 0).2.2.2) hWB5
      have hWA6 := four_far (u := .int .i64 (nthT l 0).1) (v := .int .i64 (nthT l 0).2.1) (s := .int .i64 (nthT l 0).2.2.1) (r := .bool (nthT l 0).2.2.2) (show w4.heap.size ≠ (w4.heap.size + 1) by omega) hWA5
      clear hWA5 hWB5 hBW5 c0 c1 c2 c3
      generalize (((W5.setCell ⟨(w4.heap.size + 1), 0, none⟩ (.int .i64 (nthT l 0).1)).setCell ⟨(w4.heap.size + 1), 1, none⟩ (.int .i64 (nthT l 0).2.1)).setCell ⟨(w4.heap.size + 1), 2, none⟩ (.int .i64 (nthT l 0).2.2.1)).setCell ⟨(w4.heap.size + 1), 3, none⟩ (.bool (nthT l 0).2.2.2) = W6 at *
      refine wpAnyH_done (by kernel_rfl) ?_ _
      refine NoPanic.normal ?_
      go_wp2
      have g0 : ∀ j, j < 1 → geS (nthT l 0).2.1 (nthT l 0).2.2.1 (nthT l j) := fun j hj => by
        obtain rfl : j = 0 := by omega
        exact Int.le_refl _
      have g1 : ∀ j, j < 1 → leS (nthT l 0).2.1 (nthT l 0).2.2.1 (nthT l j) := fun j hj => by
        obtain rfl : j = 0 := by omega
        exact Int.le_refl _
      have HG := Lib.hid (show _ ∧ _ ∧ _ ∧ _ ∧ _ from ⟨g0, g1, hWA6, hWB6, hBW6⟩)
      clear g0 g1 hWA6 hWB6 hBW6
      go_loopw [14] (fun i wr => ∃ k u v : Nat, k ≤ len ∧ i = .int .i64 k ∧ u < len ∧ v < len ∧ wr.heap[w4.heap.size]? = some (.cells #[.int .i64 (nthT l u).1, .int .i64 (nthT l u).2.1, .int .i64 (nthT l u).2.2.1, .bool (nthT l u).2.2.2] 30 (0, 0)) ∧ wr.heap[(w4.heap.size + 1)]? = some (.cells #[.int .i64 (nthT l v).1, .int .i64 (nthT l v).2.1, .int .i64 (nthT l v).2.2.1, .bool (nthT l v).2.2.2] 30 (0, 0)) ∧ (∀ j, j < k → geS (nthT l u).2.1 (nthT l u).2.2.1 (nthT l j)) ∧ (∀ j, j < k → leS (nthT l v).2.1 (nthT l v).2.2.1 (nthT l j)) ∧ Below w.heap.size w wr) (fun i _ => len - (intOf i).toNat)
      case atStart => exact ⟨1, 0, 0, by omega, rfl, i00, i00, HG.out.2.2.1, HG.out.2.2.2.1, HG.out.1, HG.out.2.1, HG.out.2.2.2.2⟩
      case round =>
        obtain ⟨k, u, v, hk, rfl, hu, hv, hA, hB, hge, hle, hBr⟩ := hrel
        clear HG
        have hul : u < l.length := by rw [HH.out.2.2.2]; exact hu
        have hvl : v < l.length := by rw [HH.out.2.2.2]; exact hv
        have ou := (HH.out.1.2.2.2.2 u hul).1
        have ov := (HH.out.1.2.2.2.2 v hvl).1
        have a1 := blk_cell hA 1; have a2 := blk_cell hA 2
        have b1 := blk_cell hB 1; have b2 := blk_cell hB 2
        simp at a1 a2 b1 b2
        by_cases hlt : k < len
        · have hkl : k < l.length := by rw [HH.out.2.2.2]; exact hlt
          have ok := (HH.out.1.2.2.2.2 k hkl).1
          have i2 : (k : Int) < (len : Int) := by omega
          obtain ⟨c0, c1, c2, c3⟩ := (HM.out.1.grown hBr).2.2 k hlt
          have r0 := hBr.size
          have hdk : ∀ j, j < k → 0 ≤ (nthT l j).2.2.1 := fun j hj => by have := (HH.out.1.2.2.2.2 j (by omega)).1.2.2.2.2.1; omega
          have gu := mul_le1 ok.2.2.1 ok.2.2.2.1 ou.2.2.2.2.1 ou.2.2.2.2.2
          have gu' := mul_le1 ou.2.2.1 ou.2.2.2.1 ok.2.2.2.2.1 ok.2.2.2.2.2
          have gv := mul_le1 ok.2.2.1 ok.2.2.2.1 ov.2.2.2.2.1 ov.2.2.2.2.2
          have gv' := mul_le1 ov.2.2.1 ov.2.2.2.1 ok.2.2.2.2.1 ok.2.2.2.2.2
          have w1' : IntKind.i64.wrap ((nthT l k).2.1 * (nthT l u).2.2.1) = (nthT l k).2.1 * (nthT l u).2.2.1 := wrap_id (by omega)
          have w2' : IntKind.i64.wrap ((nthT l u).2.1 * (nthT l k).2.2.1) = (nthT l u).2.1 * (nthT l k).2.2.1 := wrap_id (by omega)
          have w3' : IntKind.i64.wrap ((nthT l k).2.1 * (nthT l v).2.2.1) = (nthT l k).2.1 * (nthT l v).2.2.1 := wrap_id (by omega)
          have w4' : IntKind.i64.wrap ((nthT l v).2.1 * (nthT l k).2.2.1) = (nthT l v).2.1 * (nthT l k).2.2.1 := wrap_id (by omega)
          have HF := Lib.hid (show _ ∧ _ ∧ _ ∧ _ ∧ _ ∧ _ ∧ _ ∧ _ ∧ _ from ⟨hA, hB, hge, hle, hBr, ou, ov, ok, hdk⟩)
          have uk : IntKind.i64.wrap ((k : Int) + 1) = (k : Int) + 1 := wrap_id (by omega)
          have f0 := blk_free hA 0; have f1 := blk_free hA 1; have f2 := blk_free hA 2; have f3 := blk_free hA 3
          have h0 := blk_free hB 0; have h1 := blk_free hB 1; have h2 := blk_free hB 2; have h3 := blk_free hB 3
          have a0 := blk_cell hA 0; have a3 := blk_cell hA 3
          have b0 := blk_cell hB 0; have b3 := blk_cell hB 3
          simp at a0 a3 b0 b3
          clear hA hB hge hle hBr ou ov ok gu gu' gv gv' hdk
          by_cases q1 : (nthT l k).2.1 * (nthT l u).2.2.1 < (nthT l u).2.1 * (nthT l k).2.2.1
          · have z1 : decide ((nthT l k).2.1 * (nthT l u).2.2.1 < (nthT l u).2.1 * (nthT l k).2.2.1) = true := decide_eq_true q1
            by_cases q2 : (nthT l v).2.1 * (nthT l k).2.2.1 < (nthT l k).2.1 * (nthT l v).2.2.1
            · have z2 : decide ((nthT l v).2.1 * (nthT l k).2.2.1 < (nthT l k).2.1 * (nthT l v).2.2.1) = true := decide_eq_true q2
              have HQ := Lib.hid (show _ ∧ _ from ⟨q1, q2⟩)
              clear q1 q2
              go_wp2
              go_quiet (fail)
              go_wp2
              go_quiet (fail)
              go_wp2
              go_roundw
              case rel => exact ⟨k + 1, k, k, by omega, by go_num, hlt, hlt, four_far (by omega) (four_set HF.out.1), four_set (four_far (by omega) HF.out.2.1), geS_new HF.out.2.2.1 HF.out.2.2.2.2.2.1 HF.out.2.2.2.2.2.2.2.1 HQ.out.1 HF.out.2.2.2.2.2.2.2.2, leS_new HF.out.2.2.2.1 HF.out.2.2.2.2.2.2.1 HF.out.2.2.2.2.2.2.2.1 HQ.out.2 HF.out.2.2.2.2.2.2.2.2, four_below (by omega) (below_drewN (four_below (by omega) (below_drewN HF.out.2.2.2.2.1)))⟩
              case measure => simp [intOf] <;> omega
            · have z2 : decide ((nthT l v).2.1 * (nthT l k).2.2.1 < (nthT l k).2.1 * (nthT l v).2.2.1) = false := decide_eq_false q2
              have HQ := Lib.hid (show _ ∧ _ from ⟨q1, q2⟩)
              clear q1 q2
              go_wp2
              go_quiet (fail)
              go_wp2
              go_quiet (fail)
              go_wp2
              go_roundw
              case rel => exact ⟨k + 1, k, v, by omega, by go_num, hlt, hv, four_set HF.out.1, four_far (by omega) HF.out.2.1, geS_new HF.out.2.2.1 HF.out.2.2.2.2.2.1 HF.out.2.2.2.2.2.2.2.1 HQ.out.1 HF.out.2.2.2.2.2.2.2.2, leS_old HF.out.2.2.2.1 (Int.not_lt.2 HQ.out.2), below_drewN (four_below (by omega) (below_drewN HF.out.2.2.2.2.1))⟩
              case measure => simp [intOf] <;> omega
          · have z1 : decide ((nthT l k).2.1 * (nthT l u).2.2.1 < (nthT l u).2.1 * (nthT l k).2.2.1) = false := decide_eq_false q1
            by_cases q2 : (nthT l v).2.1 * (nthT l k).2.2.1 < (nthT l k).2.1 * (nthT l v).2.2.1
            · have z2 : decide ((nthT l v).2.1 * (nthT l k).2.2.1 < (nthT l k).2.1 * (nthT l v).2.2.1) = true := decide_eq_true q2
              have HQ := Lib.hid (show _ ∧ _ from ⟨q1, q2⟩)
              clear q1 q2
              go_wp2
              go_quiet (fail)
              go_wp2
              go_quiet (fail)
              go_wp2
              go_roundw
              case rel => exact ⟨k + 1, u, k, by omega, by go_num, hu, hlt, four_far (by omega) HF.out.1, four_set HF.out.2.1, geS_old HF.out.2.2.1 (Int.not_lt.2 HQ.out.1), leS_new HF.out.2.2.2.1 HF.out.2.2.2.2.2.2.1 HF.out.2.2.2.2.2.2.2.1 HQ.out.2 HF.out.2.2.2.2.2.2.2.2, four_below (by omega) (below_drewN HF.out.2.2.2.2.1)⟩
              case measure => simp [intOf] <;> omega
            · have z2 : decide ((nthT l v).2.1 * (nthT l k).2.2.1 < (nthT l k).2.1 * (nthT l v).2.2.1) = false := decide_eq_false q2
              have HQ := Lib.hid (show _ ∧ _ from ⟨q1, q2⟩)
              clear q1 q2
              go_wp2
              go_quiet (fail)
              go_wp2
              go_quiet (fail)
              go_wp2
              go_roundw
              case rel => exact ⟨k + 1, u, v, by omega, by go_num, hu, hv, HF.out.1, HF.out.2.1, geS_old HF.out.2.2.1 (Int.not_lt.2 HQ.out.1), leS_old HF.out.2.2.2.1 (Int.not_lt.2 HQ.out.2), below_drewN HF.out.2.2.2.2.1⟩
              case measure => simp [intOf] <;> omega
        · obtain rfl : k = len := by omega
          have hlo := HH.out.2.1 _ _ (show 0 < (nthT l u).2.2.1 by have := ou.2.2.2.2.1; omega) (fun i hi => hge i (by rw [← HH.out.2.2.2]; exact hi))
          have hhi := HH.out.2.2.1 _ _ (show 0 < (nthT l v).2.2.1 by have := ov.2.2.2.2.1; omega) (fun i hi => hle i (by rw [← HH.out.2.2.2]; exact hi))
          rw [HH.out.2.2.2] at hlo hhi
          rw [Int.sub_self] at hlo hhi
          have du1 := ou.2.2.2.2.1; have dv1 := ov.2.2.2.2.1
          clear ou ov hge hle hA hB
          generalize (nthT l u).2.1 = uN at *
          generalize (nthT l u).2.2.1 = uD at *
          generalize (nthT l v).2.1 = vN at *
          generalize (nthT l v).2.2.1 = vD at *
          have du0 : (uD == 0) = false := by simp; omega
          have dv0 : (vD == 0) = false := by simp; omega
          have HBr := Lib.hid hBr
          clear hBr
          go_wp2
          go_ret
          exact ⟨rfl, HBr.out⟩
    · go_simp
      refine hK' _ _ ⟨cell_alloc_keep c0 _, cell_alloc_keep c1 _, cell_alloc_keep c2 _, cell_alloc_keep c3 _⟩ ?_
      clear hK' K'
      refine wpAnyH_one (i := 6) (by kernel_rfl) rfl (by kernel_rfl) (fun K' hK' => ?_)
      go_simp
      refine hK' _ _ ⟨cell_alloc_keep (cell_alloc_keep c0 _) _, cell_alloc_keep (cell_alloc_keep c1 _) _, cell_alloc_keep (cell_alloc_keep c2 _) _, cell_alloc_keep (cell_alloc_keep c3 _) _⟩ ?_
      clear hK' K'
      generalize hW : ((w4.alloc (.cells #[.int .i64 0, .int .i64 0, .int .i64 0, .bool false] 30)).alloc (.cells #[.int .i64 0, .int .i64 0, .int .i64 0, .bool false] 30)).drew = W
      have hAB : (w4.heap.size + 1) ≠ w4.heap.size := by omega
      have hWA : W.heap[(w4.heap.size + 1)]? = some (.cells #[.int .i64 0, .int .i64 0, .int .i64 0, .bool false] 30 (0, 0)) := by rw [← hW]; exact n2
      have hWB : W.heap[w4.heap.size]? = some (.cells #[.int .i64 0, .int .i64 0, .int .i64 0, .bool false] 30 (0, 0)) := by rw [← hW]; exact blk_alloc n1 _
      have hBW : Below w.heap.size w W := by rw [← hW]; exact (((hB0.alloc hB0.size _).alloc (by simp; have := hB0.size; omega) _)).drew
      have hs0 := hB0.size
      clear hW n1 n2 hB hB0 c0 c1 c2 c3
      have a0 := blk_cell hWA 0; have a1 := blk_cell hWA 1; have a2 := blk_cell hWA 2; have a3 := blk_cell hWA 3
      have f0 := blk_free hWA 0; have f1 := blk_free hWA 1; have f2 := blk_free hWA 2; have f3 := blk_free hWA 3
      simp at a0 a1 a2 a3
      refine wpAnyH_one (i := 8) (by kernel_rfl) rfl (by kernel_rfl) (fun K' hK' => ?_)
      go_simp
      have hBW5 := four_below (u := .int .i64 (nthT l 0).1) (v := .int .i64 (nthT l 0).2.1) (s := .int .i64 (nthT l 0).2.2.1) (t := .bool (nthT l 0).2.2.2) (b := (w4.heap.size + 1)) (by omega) hBW
      obtain ⟨c0, c1, c2, c3⟩ := (HM.out.1.grown hBW5).2.2 0 i00
      simp only [Nat.zero_mul, Nat.add_zero] at c0 c1 c2 c3
      refine hK' _ _ ⟨c0, c1, c2, c3⟩ ?_
      clear hK' K' a0 a1 a2 a3 f0 f1 f2 f3
      have hWA5 := four_set (u := .int .i64 (nthT l 0).1) (v := .int .i64 (nthT l 0).2.1) (s := .int .i64 (nthT l 0).2.2.1) (r := .bool (nthT l 0).2.2.2) hWA
      have hWB5 := four_far (u := .int .i64 (nthT l 0).1) (v := .int .i64 (nthT l 0).2.1) (s := .int .i64 (nthT l 0).2.2.1) (r := .bool (nthT l 0).2.2.2) (show w4.heap.size ≠ (w4.heap.size + 1) by omega) hWB
      have a0 := blk_cell hWB5 0; have a1 := blk_cell hWB5 1; have a2 := blk_cell hWB5 2; have a3 := blk_cell hWB5 3
      have f0 := blk_free hWB5 0; have f1 := blk_free hWB5 1; have f2 := blk_free hWB5 2; have f3 := blk_free hWB5 3
      simp at a0 a1 a2 a3
      clear hWA hWB hBW c0 c1 c2 c3
      generalize (((W.setCell ⟨(w4.heap.size + 1), 0, none⟩ (.int .i64 (nthT l 0).1)).setCell ⟨(w4.heap.size + 1), 1, none⟩ (.int .i64 (nthT l 0).2.1)).setCell ⟨(w4.heap.size + 1), 2, none⟩ (.int .i64 (nthT l 0).2.2.1)).setCell ⟨(w4.heap.size + 1), 3, none⟩ (.bool (nthT l 0).2.2.2) = W5 at *
      refine wpAnyH_one (i := 9) (by kernel_rfl) rfl (by kernel_rfl) (fun K' hK' => ?_)
      go_simp
      have hBW6 := four_below (u := .int .i64 (nthT l 0).1) (v := .int .i64 (nthT l 0).2.1) (s := .int .i64 (nthT l 0).2.2.1) (t := .bool (nthT l 0).2.2.2) (b := w4.heap.size) (by omega) hBW5
      obtain ⟨c0, c1, c2, c3⟩ := (HM.out.1.grown hBW6).2.2 0 i00
      simp only [Nat.zero_mul, Nat.add_zero] at c0 c1 c2 c3
      refine hK' _ _ ⟨c0, c1, c2, c3⟩ ?_
      clear hK' K' a0 a1 a2 a3 f0 f1 f2 f3
      have hWB6 := four_set (u := .int .i64 (nthT l 0).1) (v := .int .i64 (nthT l 0).2.1) (s := .int .i64 (nthT l 0).2.2.1) (r := .bool (nthT l 0).2.2.2) hWB5
      have hWA6 := four_far (u := .int .i64 (nthT l 0).1) (v := .int .i64 (nthT l 0).2.1) (s := .int .i64 (nthT l 0).2.2.1) (r := .bool (nthT l 0).2.2.2) (show (w4.heap.size + 1) ≠ w4.heap.size by omega) hWA5
      clear hWA5 hWB5 hBW5 c0 c1 c2 c3
      generalize (((W5.setCell ⟨w4.heap.size, 0, none⟩ (.int .i64 (nthT l 0).1)).setCell ⟨w4.heap.size, 1, none⟩ (.int .i64 (nthT l 0).2.1)).setCell ⟨w4.heap.size, 2, none⟩ (.int .i64 (nthT l 0).2.2.1)).setCell ⟨w4.heap.size, 3, none⟩ (.bool (nthT l 0).2.2.2) = W6 at *
      refine wpAnyH_done (by kernel_rfl) ?_ _
      refine NoPanic.normal ?_
      go_wp2
      have g0 : ∀ j, j < 1 → geS (nthT l 0).2.1 (nthT l 0).2.2.1 (nthT l j) := fun j hj => by
        obtain rfl : j = 0 := by omega
        exact Int.le_refl _
      have g1 : ∀ j, j < 1 → leS (nthT l 0).2.1 (nthT l 0).2.2.1 (nthT l j) := fun j hj => by
        obtain rfl : j = 0 := by omega
        exact Int.le_refl _
      have HG := Lib.hid (show _ ∧ _ ∧ _ ∧ _ ∧ _ from ⟨g0, g1, hWA6, hWB6, hBW6⟩)
      clear g0 g1 hWA6 hWB6 hBW6
      go_loopw [14] (fun i wr => ∃ k u v : Nat, k ≤ len ∧ i = .int .i64 k ∧ u < len ∧ v < len ∧ wr.heap[(w4.heap.size + 1)]? = some (.cells #[.int .i64 (nthT l u).1, .int .i64 (nthT l u).2.1, .int .i64 (nthT l u).2.2.1, .bool (nthT l u).2.2.2] 30 (0, 0)) ∧ wr.heap[w4.heap.size]? = some (.cells #[.int .i64 (nthT l v).1, .int .i64 (nthT l v).2.1, .int .i64 (nthT l v).2.2.1, .bool (nthT l v).2.2.2] 30 (0, 0)) ∧ (∀ j, j < k → geS (nthT l u).2.1 (nthT l u).2.2.1 (nthT l j)) ∧ (∀ j, j < k → leS (nthT l v).2.1 (nthT l v).2.2.1 (nthT l j)) ∧ Below w.heap.size w wr) (fun i _ => len - (intOf i).toNat)
      case atStart => exact ⟨1, 0, 0, by omega, rfl, i00, i00, HG.out.2.2.1, HG.out.2.2.2.1, HG.out.1, HG.out.2.1, HG.out.2.2.2.2⟩
      case round =>
        obtain ⟨k, u, v, hk, rfl, hu, hv, hA, hB, hge, hle, hBr⟩ := hrel
        clear HG
        have hul : u < l.length := by rw [HH.out.2.2.2]; exact hu
        have hvl : v < l.length := by rw [HH.out.2.2.2]; exact hv
        have ou := (HH.out.1.2.2.2.2 u hul).1
        have ov := (HH.out.1.2.2.2.2 v hvl).1
        have a1 := blk_cell hA 1; have a2 := blk_cell hA 2
        have b1 := blk_cell hB 1; have b2 := blk_cell hB 2
        simp at a1 a2 b1 b2
        by_cases hlt : k < len
        · have hkl : k < l.length := by rw [HH.out.2.2.2]; exact hlt
          have ok := (HH.out.1.2.2.2.2 k hkl).1
          have i2 : (k : Int) < (len : Int) := by omega
          obtain ⟨c0, c1, c2, c3⟩ := (HM.out.1.grown hBr).2.2 k hlt
          have r0 := hBr.size
          have hdk : ∀ j, j < k → 0 ≤ (nthT l j).2.2.1 := fun j hj => by have := (HH.out.1.2.2.2.2 j (by omega)).1.2.2.2.2.1; omega
          have gu := mul_le1 ok.2.2.1 ok.2.2.2.1 ou.2.2.2.2.1 ou.2.2.2.2.2
          have gu' := mul_le1 ou.2.2.1 ou.2.2.2.1 ok.2.2.2.2.1 ok.2.2.2.2.2
          have gv := mul_le1 ok.2.2.1 ok.2.2.2.1 ov.2.2.2.2.1 ov.2.2.2.2.2
          have gv' := mul_le1 ov.2.2.1 ov.2.2.2.1 ok.2.2.2.2.1 ok.2.2.2.2.2
          have w1' : IntKind.i64.wrap ((nthT l k).2.1 * (nthT l u).2.2.1) = (nthT l k).2.1 * (nthT l u).2.2.1 := wrap_id (by omega)
          have w2' : IntKind.i64.wrap ((nthT l u).2.1 * (nthT l k).2.2.1) = (nthT l u).2.1 * (nthT l k).2.2.1 := wrap_id (by omega)
          have w3' : IntKind.i64.wrap ((nthT l k).2.1 * (nthT l v).2.2.1) = (nthT l k).2.1 * (nthT l v).2.2.1 := wrap_id (by omega)
          have w4' : IntKind.i64.wrap ((nthT l v).2.1 * (nthT l k).2.2.1) = (nthT l v).2.1 * (nthT l k).2.2.1 := wrap_id (by omega)
          have HF := Lib.hid (show _ ∧ _ ∧ _ ∧ _ ∧ _ ∧ _ ∧ _ ∧ _ ∧ _ from ⟨hA, hB, hge, hle, hBr, ou, ov, ok, hdk⟩)
          have uk : IntKind.i64.wrap ((k : Int) + 1) = (k : Int) + 1 := wrap_id (by omega)
          have f0 := blk_free hA 0; have f1 := blk_free hA 1; have f2 := blk_free hA 2; have f3 := blk_free hA 3
          have h0 := blk_free hB 0; have h1 := blk_free hB 1; have h2 := blk_free hB 2; have h3 := blk_free hB 3
          have a0 := blk_cell hA 0; have a3 := blk_cell hA 3
          have b0 := blk_cell hB 0; have b3 := blk_cell hB 3
          simp at a0 a3 b0 b3
          clear hA hB hge hle hBr ou ov ok gu gu' gv gv' hdk
          by_cases q1 : (nthT l k).2.1 * (nthT l u).2.2.1 < (nthT l u).2.1 * (nthT l k).2.2.1
          · have z1 : decide ((nthT l k).2.1 * (nthT l u).2.2.1 < (nthT l u).2.1 * (nthT l k).2.2.1) = true := decide_eq_true q1
            by_cases q2 : (nthT l v).2.1 * (nthT l k).2.2.1 < (nthT l k).2.1 * (nthT l v).2.2.1
            · have z2 : decide ((nthT l v).2.1 * (nthT l k).2.2.1 < (nthT l k).2.1 * (nthT l v).2.2.1) = true := decide_eq_true q2
              have HQ := Lib.hid (show _ ∧ _ from ⟨q1, q2⟩)
              clear q1 q2
              go_wp2
              go_quiet (fail)
              go_wp2
              go_quiet (fail)
              go_wp2
              go_roundw
              case rel => exact ⟨k + 1, k, k, by omega, by go_num, hlt, hlt, four_far (by omega) (four_set HF.out.1), four_set (four_far (by omega) HF.out.2.1), geS_new HF.out.2.2.1 HF.out.2.2.2.2.2.1 HF.out.2.2.2.2.2.2.2.1 HQ.out.1 HF.out.2.2.2.2.2.2.2.2, leS_new HF.out.2.2.2.1 HF.out.2.2.2.2.2.2.1 HF.out.2.2.2.2.2.2.2.1 HQ.out.2 HF.out.2.2.2.2.2.2.2.2, four_below (by omega) (below_drewN (four_below (by omega) (below_drewN HF.out.2.2.2.2.1)))⟩
              case measure => simp [intOf] <;> omega
            · have z2 : decide ((nthT l v).2.1 * (nthT l k).2.2.1 < (nthT l k).2.1 * (nthT l v).2.2.1) = false := decide_eq_false q2
              have HQ := Lib.hid (show _ ∧ _ from ⟨q1, q2⟩)
              clear q1 q2
              go_wp2
              go_quiet (fail)
              go_wp2
              go_quiet (fail)
              go_wp2
              go_roundw
              case rel => exact ⟨k + 1, k, v, by omega, by go_num, hlt, hv, four_set HF.out.1, four_far (by omega) HF.out.2.1, geS_new HF.out.2.2.1 HF.out.2.2.2.2.2.1 HF.out.2.2.2.2.2.2.2.1 HQ.out.1 HF.out.2.2.2.2.2.2.2.2, leS_old HF.out.2.2.2.1 (Int.not_lt.2 HQ.out.2), below_drewN (four_below (by omega) (below_drewN HF.out.2.2.2.2.1))⟩
              case measure => simp [intOf] <;> omega
          · have z1 : decide ((nthT l k).2.1 * (nthT l u).2.2.1 < (nthT l u).2.1 * (nthT l k).2.2.1) = false := decide_eq_false q1
            by_cases q2 : (nthT l v).2.1 * (nthT l k).2.2.1 < (nthT l k).2.1 * (nthT l v).2.2.1
            · have z2 : decide ((nthT l v).2.1 * (nthT l k).2.2.1 < (nthT l k).2.1 * (nthT l v).2.2.1) = true := decide_eq_true q2
              have HQ := Lib.hid (show _ ∧ _ from ⟨q1, q2⟩)
              clear q1 q2
              go_wp2
              go_quiet (fail)
              go_wp2
              go_quiet (fail)
              go_wp2
              go_roundw
              case rel => exact ⟨k + 1, u, k, by omega, by go_num, hu, hlt, four_far (by omega) HF.out.1, four_set HF.out.2.1, geS_old HF.out.2.2.1 (Int.not_lt.2 HQ.out.1), leS_new HF.out.2.2.2.1 HF.out.2.2.2.2.2.2.1 HF.out.2.2.2.2.2.2.2.1 HQ.out.2 HF.out.2.2.2.2.2.2.2.2, four_below (by omega) (below_drewN HF.out.2.2.2.2.1)⟩
              case measure => simp [intOf] <;> omega
            · have z2 : decide ((nthT l v).2.1 * (nthT l k).2.2.1 < (nthT l k).2.1 * (nthT l v).2.2.1) = false := decide_eq_false q2
              have HQ := Lib.hid (show _ ∧ _ from ⟨q1, q2⟩)
              clear q1 q2
              go_wp2
              go_quiet (fail)
              go_wp2
              go_quiet (fail)
              go_wp2
              go_roundw
              case rel => exact ⟨k + 1, u, v, by omega, by go_num, hu, hv, HF.out.1, HF.out.2.1, geS_old HF.out.2.2.1 (Int.not_lt.2 HQ.out.1), leS_old HF.out.2.2.2.1 (Int.not_lt.2 HQ.out.2), below_drewN HF.out.2.2.2.2.1⟩
              case measure => simp [intOf] <;> omega
        · obtain rfl : k = len := by omega
          have hlo := HH.out.2.1 _ _ (show 0 < (nthT l u).2.2.1 by have := ou.2.2.2.2.1; omega) (fun i hi => hge i (by rw [← HH.out.2.2.2]; exact hi))
          have hhi := HH.out.2.2.1 _ _ (show 0 < (nthT l v).2.2.1 by have := ov.2.2.2.2.1; omega) (fun i hi => hle i (by rw [← HH.out.2.2.2]; exact hi))
          rw [HH.out.2.2.2] at hlo hhi
          rw [Int.sub_self] at hlo hhi
          have du1 := ou.2.2.2.2.1; have dv1 := ov.2.2.2.2.1
          clear ou ov hge hle hA hB
          generalize (nthT l u).2.1 = uN at *
          generalize (nthT l u).2.2.1 = uD at *
          generalize (nthT l v).2.1 = vN at *
          generalize (nthT l v).2.2.1 = vD at *
          have du0 : (uD == 0) = false := by simp; omega
          have dv0 : (vD == 0) = false := by simp; omega
          have HBr := Lib.hid hBr
          clear hBr
          go_wp2
          go_ret
          exact ⟨rfl, HBr.out⟩
  · have g1 : q ≤ p := by omega
    have g2 : ¬ p ≤ q := by omega
    go_wp2_with fail
    refine (tsample_any a b off len cap l q _ (HM.out.1.grown hB) hn (blk_has HM.out.2 hB)).mono ?_; rintro e w2 ⟨rfl, hb⟩
    replace hB := below_after hB hb hB.size
    clear hb
    go_wp2_with fail
    refine (tsample_any a b off len cap l p _ (HM.out.1.grown hB) hn (blk_has HM.out.2 hB)).mono ?_; rintro e w3 ⟨rfl, hb⟩
    replace hB := below_after hB hb hB.size
    clear hb
    rcases s_cases l q with ⟨k1, k2⟩ | ⟨k1, k2, k3, k4, k5⟩
    · rw [k2]
      have z9 : (sE l q != 0) = true := by simp [k1]
      clear k1 k2
      go_wp2
      go_ret
      exact ⟨rfl, hB⟩
    rw [k4, k5]
    clear k4 k5
    rcases s_cases l p with ⟨m1, m2⟩ | ⟨m1, m2, m3, m4, m5⟩
    · rw [m2]
      have z9 : (sE l p != 0) = true := by simp [m1]
      clear m1 m2
      go_wp2
      go_ret
      exact ⟨rfl, hB⟩
    rw [m4, m5]
    clear m4 m5
    have hmono := smp_mono k1 k2.1 (show q ≤ p by omega)
    have hlo := fun (N D : Int) (hD : 0 < D) (hg : ∀ i, i < l.length → geS N D (nthT l i)) => smp_lo k1 hD hg k2.1 (show q ≤ p by omega)
    have hhi := fun (N D : Int) (hD : 0 < D) (hg : ∀ i, i < l.length → leS N D (nthT l i)) => smp_hi k1 hD hg k2.1 (show q ≤ p by omega)
    have hx0 := smp_nn k1 k2.1
    obtain ⟨X, hX⟩ : ∃ X, X = smp l q := ⟨_, rfl⟩
    obtain ⟨Y, hY⟩ : ∃ Y, Y = smp l p := ⟨_, rfl⟩
    rw [← hX, ← hY] at hmono hlo hhi
    rw [← hX, ← hY]
    rw [← hX] at k3 hx0
    rw [← hY] at m3
    have zz : decide (Y < X) = false := decide_eq_false (by omega)
    have hl := HM.out.1.1
    have hl64 : len ≤ 64 := by rw [← hl]; exact k1.2.1
    have hl1 : 1 ≤ len := by rw [← hl]; exact k1.1
    have HH := Lib.hid (show _ ∧ _ ∧ _ ∧ _ from ⟨k1, hlo, hhi, hl⟩)
    have HX := Lib.hid (show _ ∧ _ from ⟨hX, hY⟩)
    clear hlo hhi k1 hX hY hl
    go_wp2_with fail
    refine (rcheck_any a len cap b off l _ (HM.out.1.grown hB) hn).mono ?_; rintro e w4 ⟨rfl, hb⟩
    replace hB := below_after hB hb hB.size
    clear hb
    rw [chk_yes HH.out.1]
    have ut : IntKind.i64.wrap (p - q) = p - q := wrap_id (by omega)
    have hp0 := (HH.out.1.2.2.2.2 0 (by rw [HH.out.2.2.2]; omega)).1
    obtain ⟨c0, c1, c2, c3⟩ := (HM.out.1.grown hB).2.2 0 (by omega)
    simp only [Nat.zero_mul, Nat.add_zero] at c0 c1 c2 c3
    obtain ⟨rfl, hbw⟩ := HM.out.1.2.1 (by omega)
    have hB0 := hB
    have hbw4 : b < w4.heap.size := Nat.lt_of_lt_of_le hbw hB.size
    go_wp2_with fail
    refine wp_region_from 0 6 (fun w' => w'.cell? ⟨b, off, none⟩ = some (.int .i64 (nthT l 0).1) ∧ w'.cell? ⟨b, off + 1, none⟩ = some (.int .i64 (nthT l 0).2.1) ∧ w'.cell? ⟨b, off + 2, none⟩ = some (.int .i64 (nthT l 0).2.2.1) ∧ w'.cell? ⟨b, off + 3, none⟩ = some (.bool (nthT l 0).2.2.2)) (by kernel_rfl) (by kernel_rfl) (by decide) (by kernel_rfl) ⟨c0, c1, c2, c3⟩ ?_
    simp only [List.drop_zero, List.take_succ_cons, List.take_zero]
    have i0 : (0 : Int) < (len : Int) := by omega
    have i00 : 0 < len := by omega
    refine wpHeld_cons (.slice (some ⟨b, off, none⟩) len cap) (by kernel_rfl) ?_ ?_
    · rintro w' ⟨s0, s1, s2, s3⟩
      try go_simp
    refine wpHeld_cons (.pointer (some ⟨b, off, none⟩)) (by kernel_rfl) ?_ ?_
    · rintro w' ⟨s0, s1, s2, s3⟩
      try go_simp
    refine wpHeld_cons (.agg #[.int .i64 (nthT l 0).1, .int .i64 (nthT l 0).2.1, .int .i64 (nthT l 0).2.2.1, .bool (nthT l 0).2.2.2]) (by kernel_rfl) ?_ ?_
    · rintro w' ⟨s0, s1, s2, s3⟩
      try go_simp
    refine wpHeld_cons (.slice (some ⟨b, off, none⟩) len cap) (by kernel_rfl) ?_ ?_
    · rintro w' ⟨s0, s1, s2, s3⟩
      try go_simp
    refine wpHeld_cons (.pointer (some ⟨b, off, none⟩)) (by kernel_rfl) ?_ ?_
    · rintro w' ⟨s0, s1, s2, s3⟩
      try go_simp
    refine wpHeld_cons (.agg #[.int .i64 (nthT l 0).1, .int .i64 (nthT l 0).2.1, .int .i64 (nthT l 0).2.2.1, .bool (nthT l 0).2.2.2]) (by kernel_rfl) ?_ ?_
    · rintro w' ⟨s0, s1, s2, s3⟩
      try go_simp
    refine wpHeld_nil ?_
    go_simp
    have n1 := blk_new w4.drew (.cells #[.int .i64 0, .int .i64 0, .int .i64 0, .bool false] 30)
    have n2 := blk_new (w4.drew.alloc (.cells #[.int .i64 0, .int .i64 0, .int .i64 0, .bool false] 30)) (.cells #[.int .i64 0, .int .i64 0, .int .i64 0, .bool false] 30)
    rw [World.size_alloc] at n2
    refine wpAnyH_two (i := 6) (j := 7) (by kernel_rfl) rfl rfl (by kernel_rfl) (by kernel_rfl) (fun K' hK' => ?_) (fun K' hK' => ?_)
    · go_simp
      refine hK' _ _ ⟨cell_alloc_keep c0 _, cell_alloc_keep c1 _, cell_alloc_keep c2 _, cell_alloc_keep c3 _⟩ ?_
      clear hK' K'
      refine wpAnyH_one (i := 7) (by kernel_rfl) rfl (by kernel_rfl) (fun K' hK' => ?_)
      go_simp
      refine hK' _ _ ⟨cell_alloc_keep (cell_alloc_keep c0 _) _, cell_alloc_keep (cell_alloc_keep c1 _) _, cell_alloc_keep (cell_alloc_keep c2 _) _, cell_alloc_keep (cell_alloc_keep c3 _) _⟩ ?_
      clear hK' K'
      generalize hW : ((w4.alloc (.cells #[.int .i64 0, .int .i64 0, .int .i64 0, .bool false] 30)).alloc (.cells #[.int .i64 0, .int .i64 0, .int .i64 0, .bool false] 30)).drew = W
      have hAB : w4.heap.size ≠ (w4.heap.size + 1) := by omega
      have hWA : W.heap[w4.heap.size]? = some (.cells #[.int .i64 0, .int .i64 0, .int .i64 0, .bool false] 30 (0, 0)) := by rw [← hW]; exact blk_alloc n1 _
      have hWB : W.heap[(w4.heap.size + 1)]? = some (.cells #[.int .i64 0, .int .i64 0, .int .i64 0, .bool false] 30 (0, 0)) := by rw [← hW]; exact n2
      have hBW : Below w.heap.size w W := by rw [← hW]; exact (((hB0.alloc hB0.size _).alloc (by simp; have := hB0.size; omega) _)).drew
      have hs0 := hB0.size
      clear hW n1 n2 hB hB0 c0 c1 c2 c3
      have a0 := blk_cell hWA 0; have a1 := blk_cell hWA 1; have a2 := blk_cell hWA 2; have a3 := blk_cell hWA 3
      have f0 := blk_free hWA 0; have f1 := blk_free hWA 1; have f2 := blk_free hWA 2; have f3 := blk_free hWA 3
      simp at a0 a1 a2 a3
      refine wpAnyH_one (i := 8) (by kernel_rfl) rfl (by kernel_rfl) (fun K' hK' => ?_)
      go_simp
      have hBW5 := four_below (u := .int .i64 (nthT l 0).1) (v := .int .i64 (nthT l 0).2.1) (s := .int .i64 (nthT l 0).2.2.1) (t := .bool (nthT l 0).2.2.2) (b := w4.heap.size) (by omega) hBW
      obtain ⟨c0, c1, c2, c3⟩ := (HM.out.1.grown hBW5).2.2 0 i00
      simp only [Nat.zero_mul, Nat.add_zero] at c0 c1 c2 c3
      refine hK' _ _ ⟨c0, c1, c2, c3⟩ ?_
      clear hK' K' a0 a1 a2 a3 f0 f1 f2 f3
      have hWA5 := four_set (u := .int .i64 (nthT l 0).1) (v := .int .i64 (nthT l 0).2.1) (s := .int .i64 (nthT l 0).2.2.1) (r := .bool (nthT l 0).2.2.2) hWA
      have hWB5 := four_far (u := .int .i64 (nthT l 0).1) (v := .int .i64 (nthT l 0).2.1) (s := .int .i64 (nthT l 0).2.2.1) (r := .bool (nthT l 0).2.2.2) (show (w4.heap.size + 1) ≠ w4.heap.size by omega) hWB
      have a0 := blk_cell hWB5 0; have a1 := blk_cell hWB5 1; have a2 := blk_cell hWB5 2; have a3 := blk_cell hWB5 3
      have f0 := blk_free hWB5 0; have f1 := blk_free hWB5 1; have f2 := blk_free hWB5 2; have f3 := blk_free hWB5 3
      simp at a0 a1 a2 a3
      clear hWA hWB hBW c0 c1 c2 c3
      generalize (((W.setCell ⟨w4.heap.size, 0, none⟩ (.int .i64 (nthT l 0).1)).setCell ⟨w4.heap.size, 1, none⟩ (.int .i64 (nthT l 0).2.1)).setCell ⟨w4.heap.size, 2, none⟩ (.int .i64 (nthT l 0).2.2.1)).setCell ⟨w4.heap.size, 3, none⟩ (.bool (nthT l 0).2.2.2) = W5 at *
      refine wpAnyH_one (i := 9) (by kernel_rfl) rfl (by kernel_rfl) (fun K' hK' => ?_)
      go_simp
      have hBW6 := four_below (u := .int .i64 (nthT l 0).1) (v := .int .i64 (nthT l 0).2.1) (s := .int .i64 (nthT l 0).2.2.1) (t := .bool (nthT l 0).2.2.2) (b := (w4.heap.size + 1)) (by omega) hBW5
      obtain ⟨c0, c1, c2, c3⟩ := (HM.out.1.grown hBW6).2.2 0 i00
      simp only [Nat.zero_mul, Nat.add_zero] at c0 c1 c2 c3
      refine hK' _ _ ⟨c0, c1, c2, c3⟩ ?_
      clear hK' K' a0 a1 a2 a3 f0 f1 f2 f3
      have hWB6 := four_set (u := .int .i64 (nthT l 0).1) (v := .int .i64 (nthT l 0).2.1) (s := .int .i64 (nthT l 0).2.2.1) (r := .bool (nthT l 0).2.2.2) hWB5
      have hWA6 := four_far (u := .int .i64 (nthT l 0).1) (v := .int .i64 (nthT l 0).2.1) (s := .int .i64 (nthT l 0).2.2.1) (r := .bool (nthT l 0).2.2.2) (show w4.heap.size ≠ (w4.heap.size + 1) by omega) hWA5
      clear hWA5 hWB5 hBW5 c0 c1 c2 c3
      generalize (((W5.setCell ⟨(w4.heap.size + 1), 0, none⟩ (.int .i64 (nthT l 0).1)).setCell ⟨(w4.heap.size + 1), 1, none⟩ (.int .i64 (nthT l 0).2.1)).setCell ⟨(w4.heap.size + 1), 2, none⟩ (.int .i64 (nthT l 0).2.2.1)).setCell ⟨(w4.heap.size + 1), 3, none⟩ (.bool (nthT l 0).2.2.2) = W6 at *
      refine wpAnyH_done (by kernel_rfl) ?_ _
      refine NoPanic.normal ?_
      go_wp2
      have g0 : ∀ j, j < 1 → geS (nthT l 0).2.1 (nthT l 0).2.2.1 (nthT l j) := fun j hj => by
        obtain rfl : j = 0 := by omega
        exact Int.le_refl _
      have g1 : ∀ j, j < 1 → leS (nthT l 0).2.1 (nthT l 0).2.2.1 (nthT l j) := fun j hj => by
        obtain rfl : j = 0 := by omega
        exact Int.le_refl _
      have HG := Lib.hid (show _ ∧ _ ∧ _ ∧ _ ∧ _ from ⟨g0, g1, hWA6, hWB6, hBW6⟩)
      clear g0 g1 hWA6 hWB6 hBW6
      go_loopw [14] (fun i wr => ∃ k u v : Nat, k ≤ len ∧ i = .int .i64 k ∧ u < len ∧ v < len ∧ wr.heap[w4.heap.size]? = some (.cells #[.int .i64 (nthT l u).1, .int .i64 (nthT l u).2.1, .int .i64 (nthT l u).2.2.1, .bool (nthT l u).2.2.2] 30 (0, 0)) ∧ wr.heap[(w4.heap.size + 1)]? = some (.cells #[.int .i64 (nthT l v).1, .int .i64 (nthT l v).2.1, .int .i64 (nthT l v).2.2.1, .bool (nthT l v).2.2.2] 30 (0, 0)) ∧ (∀ j, j < k → geS (nthT l u).2.1 (nthT l u).2.2.1 (nthT l j)) ∧ (∀ j, j < k → leS (nthT l v).2.1 (nthT l v).2.2.1 (nthT l j)) ∧ Below w.heap.size w wr) (fun i _ => len - (intOf i).toNat)
      case atStart => exact ⟨1, 0, 0, by omega, rfl, i00, i00, HG.out.2.2.1, HG.out.2.2.2.1, HG.out.1, HG.out.2.1, HG.out.2.2.2.2⟩
      case round =>
        obtain ⟨k, u, v, hk, rfl, hu, hv, hA, hB, hge, hle, hBr⟩ := hrel
        clear HG
        have hul : u < l.length := by rw [HH.out.2.2.2]; exact hu
        have hvl : v < l.length := by rw [HH.out.2.2.2]; exact hv
        have ou := (HH.out.1.2.2.2.2 u hul).1
        have ov := (HH.out.1.2.2.2.2 v hvl).1
        have a1 := blk_cell hA 1; have a2 := blk_cell hA 2
        have b1 := blk_cell hB 1; have b2 := blk_cell hB 2
        simp at a1 a2 b1 b2
        by_cases hlt : k < len
        · have hkl : k < l.length := by rw [HH.out.2.2.2]; exact hlt
          have ok := (HH.out.1.2.2.2.2 k hkl).1
          have i2 : (k : Int) < (len : Int) := by omega
          obtain ⟨c0, c1, c2, c3⟩ := (HM.out.1.grown hBr).2.2 k hlt
          have r0 := hBr.size
          have hdk : ∀ j, j < k → 0 ≤ (nthT l j).2.2.1 := fun j hj => by have := (HH.out.1.2.2.2.2 j (by omega)).1.2.2.2.2.1; omega
          have gu := mul_le1 ok.2.2.1 ok.2.2.2.1 ou.2.2.2.2.1 ou.2.2.2.2.2
          have gu' := mul_le1 ou.2.2.1 ou.2.2.2.1 ok.2.2.2.2.1 ok.2.2.2.2.2
          have gv := mul_le1 ok.2.2.1 ok.2.2.2.1 ov.2.2.2.2.1 ov.2.2.2.2.2
          have gv' := mul_le1 ov.2.2.1 ov.2.2.2.1 ok.2.2.2.2.1 ok.2.2.2.2.2
          have w1' : IntKind.i64.wrap ((nthT l k).2.1 * (nthT l u).2.2.1) = (nthT l k).2.1 * (nthT l u).2.2.1 := wrap_id (by omega)
          have w2' : IntKind.i64.wrap ((nthT l u).2.1 * (nthT l k).2.2.1) = (nthT l u).2.1 * (nthT l k).2.2.1 := wrap_id (by omega)
          have w3' : IntKind.i64.wrap ((nthT l k).2.1 * (nthT l v).2.2.1) = (nthT l k).2.1 * (nthT l v).2.2.1 := wrap_id (by omega)
          have w4' : IntKind.i64.wrap ((nthT l v).2.1 * (nthT l k).2.2.1) = (nthT l v).2.1 * (nthT l k).2.2.1 := wrap_id (by omega)
          have HF := Lib.hid (show _ ∧ _ ∧ _ ∧ _ ∧ _ ∧ _ ∧ _ ∧ _ ∧ _ from ⟨hA, hB, hge, hle, hBr, ou, ov, ok, hdk⟩)
          have uk : IntKind.i64.wrap ((k : Int) + 1) = (k : Int) + 1 := wrap_id (by omega)
          have f0 := blk_free hA 0; have f1 := blk_free hA 1; have f2 := blk_free hA 2; have f3 := blk_free hA 3
          have h0 := blk_free hB 0; have h1 := blk_free hB 1; have h2 := blk_free hB 2; have h3 := blk_free hB 3
          have a0 := blk_cell hA 0; have a3 := blk_cell hA 3
          have b0 := blk_cell hB 0; have b3 := blk_cell hB 3
          simp at a0 a3 b0 b3
          clear hA hB hge hle hBr ou ov ok gu gu' gv gv' hdk
          by_cases q1 : (nthT l k).2.1 * (nthT l u).2.2.1 < (nthT l u).2.1 * (nthT l k).2.2.1
          · have z1 : decide ((nthT l k).2.1 * (nthT l u).2.2.1 < (nthT l u).2.1 * (nthT l k).2.2.1) = true := decide_eq_true q1
            by_cases q2 : (nthT l v).2.1 * (nthT l k).2.2.1 < (nthT l k).2.1 * (nthT l v).2.2.1
            · have z2 : decide ((nthT l v).2.1 * (nthT l k).2.2.1 < (nthT l k).2.1 * (nthT l v).2.2.1) = true := decide_eq_true q2
              have HQ := Lib.hid (show _ ∧ _ from ⟨q1, q2⟩)
              clear q1 q2
              go_wp2
              go_quiet (fail)
              go_wp2
              go_quiet (fail)
              go_wp2
              go_roundw
              case rel => exact ⟨k + 1, k, k, by omega, by go_num, hlt, hlt, four_far (by omega) (four_set HF.out.1), four_set (four_far (by omega) HF.out.2.1), geS_new HF.out.2.2.1 HF.out.2.2.2.2.2.1 HF.out.2.2.2.2.2.2.2.1 HQ.out.1 HF.out.2.2.2.2.2.2.2.2, leS_new HF.out.2.2.2.1 HF.out.2.2.2.2.2.2.1 HF.out.2.2.2.2.2.2.2.1 HQ.out.2 HF.out.2.2.2.2.2.2.2.2, four_below (by omega) (below_drewN (four_below (by omega) (below_drewN HF.out.2.2.2.2.1)))⟩
              case measure => simp [intOf] <;> omega
            · have z2 : decide ((nthT l v).2.1 * (nthT l k).2.2.1 < (nthT l k).2.1 * (nthT l v).2.2.1) = false := decide_eq_false q2
              have HQ := Lib.hid (show _ ∧ _ from ⟨q1, q2⟩)
              clear q1 q2
              go_wp2
              go_quiet (fail)
              go_wp2
              go_quiet (fail)
              go_wp2
              go_roundw
              case rel => exact ⟨k + 1, k, v, by omega, by go_num, hlt, hv, four_set HF.out.1, four_far (by omega) HF.out.2.1, geS_new HF.out.2.2.1 HF.out.2.2.2.2.2.1 HF.out.2.2.2.2.2.2.2.1 HQ.out.1 HF.out.2.2.2.2.2.2.2.2, leS_old HF.out.2.2.2.1 (Int.not_lt.2 HQ.out.2), below_drewN (four_below (by omega) (below_drewN HF.out.2.2.2.2.1))⟩
              case measure => simp [intOf] <;> omega
          · have z1 : decide ((nthT l k).2.1 * (nthT l u).2.2.1 < (nthT l u).2.1 * (nthT l k).2.2.1) = false := decide_eq_false q1
            by_cases q2 : (nthT l v).2.1 * (nthT l k).2.2.1 < (nthT l k).2.1 * (nthT l v).2.2.1
            · have z2 : decide ((nthT l v).2.1 * (nthT l k).2.2.1 < (nthT l k).2.1 * (nthT l v).2.2.1) = true := decide_eq_true q2
              have HQ := Lib.hid (show _ ∧ _ from ⟨q1, q2⟩)
              clear q1 q2
              go_wp2
              go_quiet (fail)
              go_wp2
              go_quiet (fail)
              go_wp2
              go_roundw
              case rel => exact ⟨k + 1, u, k, by omega, by go_num, hu, hlt, four_far (by omega) HF.out.1, four_set HF.out.2.1, geS_old HF.out.2.2.1 (Int.not_lt.2 HQ.out.1), leS_new HF.out.2.2.2.1 HF.out.2.2.2.2.2.2.1 HF.out.2.2.2.2.2.2.2.1 HQ.out.2 HF.out.2.2.2.2.2.2.2.2, four_below (by omega) (below_drewN HF.out.2.2.2.2.1)⟩
              case measure => simp [intOf] <;> omega
            · have z2 : decide ((nthT l v).2.1 * (nthT l k).2.2.1 < (nthT l k).2.1 * (nthT l v).2.2.1) = false := decide_eq_false q2
              have HQ := Lib.hid (show _ ∧ _ from ⟨q1, q2⟩)
              clear q1 q2
              go_wp2
              go_quiet (fail)
              go_wp2
              go_quiet (fail)
              go_wp2
              go_roundw
              case rel => exact ⟨k + 1, u, v, by omega, by go_num, hu, hv, HF.out.1, HF.out.2.1, geS_old HF.out.2.2.1 (Int.not_lt.2 HQ.out.1), leS_old HF.out.2.2.2.1 (Int.not_lt.2 HQ.out.2), below_drewN HF.out.2.2.2.2.1⟩
              case measure => simp [intOf] <;> omega
        · obtain rfl : k = len := by omega
          have hlo := HH.out.2.1 _ _ (show 0 < (nthT l u).2.2.1 by have := ou.2.2.2.2.1; omega) (fun i hi => hge i (by rw [← HH.out.2.2.2]; exact hi))
          have hhi := HH.out.2.2.1 _ _ (show 0 < (nthT l v).2.2.1 by have := ov.2.2.2.2.1; omega) (fun i hi => hle i (by rw [← HH.out.2.2.2]; exact hi))
          rw [HH.out.2.2.2] at hlo hhi
          generalize hT : p - q = T at *
          have t1 : T ≤ 16777216 := by omega
          have tu := mul_le (show 0 ≤ T by omega) t1 (show 0 ≤ (nthT l u).2.1 by have := ou.2.2.1; omega) ou.2.2.2.1
          have tv := mul_le (show 0 ≤ T by omega) t1 (show 0 ≤ (nthT l v).2.1 by have := ov.2.2.1; omega) ov.2.2.2.1
          have du1 := ou.2.2.2.2.1; have dv1 := ov.2.2.2.2.1
          clear ou ov hge hle hA hB
          generalize (nthT l u).2.1 = uN at *
          generalize (nthT l u).2.2.1 = uD at *
          generalize (nthT l v).2.1 = vN at *
          generalize (nthT l v).2.2.1 = vD at *
          have w1' : IntKind.i64.wrap (T * uN) = T * uN := wrap_id (by omega)
          have w2' : IntKind.i64.wrap (T * vN) = T * vN := wrap_id (by omega)
          have w3' : Int.tdiv (T * uN) uD = T * uN / uD := Int.tdiv_eq_ediv_of_nonneg tu.1
          have w4' : Int.tdiv (T * vN) vD = T * vN / vD := Int.tdiv_eq_ediv_of_nonneg tv.1
          have qu0 : 0 ≤ T * uN / uD := Int.ediv_nonneg tu.1 (by omega)
          have qv0 : 0 ≤ T * vN / vD := Int.ediv_nonneg tv.1 (by omega)
          have qu1 : T * uN / uD ≤ T * uN := Int.ediv_le_self _ tu.1
          have qv1 : T * vN / vD ≤ T * vN := Int.ediv_le_self _ tv.1
          have w5' : IntKind.i64.wrap (Y - X) = Y - X := wrap_id (by omega)
          have w6' : IntKind.i64.wrap (T * uN / uD - (k : Int)) = T * uN / uD - (k : Int) := wrap_id (by omega)
          have w7' : IntKind.i64.wrap (T * vN / vD + (k : Int)) = T * vN / vD + (k : Int) := wrap_id (by omega)
          have du0 : (uD == 0) = false := by simp; omega
          have dv0 : (vD == 0) = false := by simp; omega
          have z3 : wrap64 (wrap64 (T * uN / uD) - (k : Int)) ≤ Y - X := by
            rw [IntWalk.wrap64_in (T * uN / uD) (by omega), IntWalk.wrap64_in _ (by omega)]; omega
          have z4 : decide (Y - X ≤ T * vN / vD + (k : Int)) = true := decide_eq_true (by omega)
          have e8 : wrap64 (T * vN / vD) = T * vN / vD := IntWalk.wrap64_in _ (by omega)
          have e9 : wrap64 (T * vN / vD + (k : Int)) = T * vN / vD + (k : Int) := IntWalk.wrap64_in _ (by omega)
          have HBr := Lib.hid hBr
          clear hBr hlo hhi tu tv qu0 qv0 qu1 qv1
          have HE := Lib.hid (show _ ∧ _ ∧ _ from ⟨e8, e9, z4⟩)
          clear e8 e9 z4
          go_wp2
          go_ret
          exact ⟨by rw [HE.out.1, HE.out.2.1, HE.out.2.2]; rfl, HBr.out⟩
    · go_simp
      refine hK' _ _ ⟨cell_alloc_keep c0 _, cell_alloc_keep c1 _, cell_alloc_keep c2 _, cell_alloc_keep c3 _⟩ ?_
      clear hK' K'
      refine wpAnyH_one (i := 6) (by kernel_rfl) rfl (by kernel_rfl) (fun K' hK' => ?_)
      go_simp
      refine hK' _ _ ⟨cell_alloc_keep (cell_alloc_keep c0 _) _, cell_alloc_keep (cell_alloc_keep c1 _) _, cell_alloc_keep (cell_alloc_keep c2 _) _, cell_alloc_keep (cell_alloc_keep c3 _) _⟩ ?_
      clear hK' K'
      generalize hW : ((w4.alloc (.cells #[.int .i64 0, .int .i64 0, .int .i64 0, .bool false] 30)).alloc (.cells #[.int .i64 0, .int .i64 0, .int .i64 0, .bool false] 30)).drew = W
      have hAB : (w4.heap.size + 1) ≠ w4.heap.size := by omega
      have hWA : W.heap[(w4.heap.size + 1)]? = some (.cells #[.int .i64 0, .int .i64 0, .int .i64 0, .bool false] 30 (0, 0)) := by rw [← hW]; exact n2
      have hWB : W.heap[w4.heap.size]? = some (.cells #[.int .i64 0, .int .i64 0, .int .i64 0, .bool false] 30 (0, 0)) := by rw [← hW]; exact blk_alloc n1 _
      have hBW : Below w.heap.size w W := by rw [← hW]; exact (((hB0.alloc hB0.size _).alloc (by simp; have := hB0.size; omega) _)).drew
      have hs0 := hB0.size
      clear hW n1 n2 hB hB0 c0 c1 c2 c3
      have a0 := blk_cell hWA 0; have a1 := blk_cell hWA 1; have a2 := blk_cell hWA 2; have a3 := blk_cell hWA 3
      have f0 := blk_free hWA 0; have f1 := blk_free hWA 1; have f2 := blk_free hWA 2; have f3 := blk_free hWA 3
      simp at a0 a1 a2 a3
      refine wpAnyH_one (i := 8) (by kernel_rfl) rfl (by kernel_rfl) (fun K' hK' => ?_)
      go_simp
      have hBW5 := four_below (u := .int .i64 (nthT l 0).1) (v := .int .i64 (nthT l 0).2.1) (s := .int .i64 (nthT l 0).2.2.1) (t := .bool (nthT l 0).2.2.2) (b := (w4.heap.size + 1)) (by omega) hBW
      obtain ⟨c0, c1, c2, c3⟩ := (HM.out.1.grown hBW5).2.2 0 i00
      simp only [Nat.zero_mul, Nat.add_zero] at c0 c1 c2 c3
      refine hK' _ _ ⟨c0, c1, c2, c3⟩ ?_
      clear hK' K' a0 a1 a2 a3 f0 f1 f2 f3
      have hWA5 := four_set (u := .int .i64 (nthT l 0).1) (v := .int .i64 (nthT l 0).2.1) (s := .int .i64 (nthT l 0).2.2.1) (r := .bool (nthT l 0).2.2.2) hWA
      have hWB5 := four_far (u := .int .i64 (nthT l 0).1) (v := .int .i64 (nthT l 0).2.1) (s := .int .i64 (nthT l 0).2.2.1) (r := .bool (nthT l 0).2.2.2) (show w4.heap.size ≠ (w4.heap.size + 1) by omega) hWB
      have a0 := blk_cell hWB5 0; have a1 := blk_cell hWB5 1; have a2 := blk_cell hWB5 2; have a3 := blk_cell hWB5 3
      have f0 := blk_free hWB5 0; have f1 := blk_free hWB5 1; have f2 := blk_free hWB5 2; have f3 := blk_free hWB5 3
      simp at a0 a1 a2 a3
      clear hWA hWB hBW c0 c1 c2 c3
      generalize (((W.setCell ⟨(w4.heap.size + 1), 0, none⟩ (.int .i64 (nthT l 0).1)).setCell ⟨(w4.heap.size + 1), 1, none⟩ (.int .i64 (nthT l 0).2.1)).setCell ⟨(w4.heap.size + 1), 2, none⟩ (.int .i64 (nthT l 0).2.2.1)).setCell ⟨(w4.heap.size + 1), 3, none⟩ (.bool (nthT l 0).2.2.2) = W5 at *
      refine wpAnyH_one (i := 9) (by kernel_rfl) rfl (by kernel_rfl) (fun K' hK' => ?_)
      go_simp
      have hBW6 := four_below (u := .int .i64 (nthT l 0).1) (v := .int .i64 (nthT l 0).2.1) (s := .int .i64 (nthT l 0).2.2.1) (t := .bool (nthT l 0).2.2.2) (b := w4.heap.size) (by omega) hBW5
      obtain ⟨c0, c1, c2, c3⟩ := (HM.out.1.grown hBW6).2.2 0 i00
      simp only [Nat.zero_mul, Nat.add_zero] at c0 c1 c2 c3
      refine hK' _ _ ⟨c0, c1, c2, c3⟩ ?_
      clear hK' K' a0 a1 a2 a3 f0 f1 f2 f3
      have hWB6 := four_set (u := .int .i64 (nthT l 0).1) (v := .int .i64 (nthT l 0).2.1) (s := .int .i64 (nthT l 0).2.2.1) (r := .bool (nthT l 0).2.2.2) hWB5
      have hWA6 := four_far (u := .int .i64 (nthT l 0).1) (v := .int .i64 (nthT l 0).2.1) (s := .int .i64 (nthT l 0).2.2.1) (r := .bool (nthT l 0).2.2.2) (show (w4.heap.size + 1) ≠ w4.heap.size by omega) hWA5
      clear hWA5 hWB5 hBW5 c0 c1 c2 c3
      generalize (((W5.setCell ⟨w4.heap.size, 0, none⟩ (.int .i64 (nthT l 0).1)).setCell ⟨w4.heap.size, 1, none⟩ (.int .i64 (nthT l 0).2.1)).setCell ⟨w4.heap.size, 2, none⟩ (.int .i64 (nthT l 0).2.2.1)).setCell ⟨w4.heap.size, 3, none⟩ (.bool (nthT l 0).2.2.2) = W6 at *
      refine wpAnyH_done (by kernel_rfl) ?_ _
      refine NoPanic.normal ?_
      go_wp2
      have g0 : ∀ j, j < 1 → geS (nthT l 0).2.1 (nthT l 0).2.2.1 (nthT l j) := fun j hj => by
        obtain rfl : j = 0 := by omega
        exact Int.le_refl _
      have g1 : ∀ j, j < 1 → leS (nthT l 0).2.1 (nthT l 0).2.2.1 (nthT l j) := fun j hj => by
        obtain rfl : j = 0 := by omega
        exact Int.le_refl _
      have HG := Lib.hid (show _ ∧ _ ∧ _ ∧ _ ∧ _ from ⟨g0, g1, hWA6, hWB6, hBW6⟩)
      clear g0 g1 hWA6 hWB6 hBW6
      go_loopw [14] (fun i wr => ∃ k u v : Nat, k ≤ len ∧ i = .int .i64 k ∧ u < len ∧ v < len ∧ wr.heap[(w4.heap.size + 1)]? = some (.cells #[.int .i64 (nthT l u).1, .int .i64 (nthT l u).2.1, .int .i64 (nthT l u).2.2.1, .bool (nthT l u).2.2.2] 30 (0, 0)) ∧ wr.heap[w4.heap.size]? = some (.cells #[.int .i64 (nthT l v).1, .int .i64 (nthT l v).2.1, .int .i64 (nthT l v).2.2.1, .bool (nthT l v).2.2.2] 30 (0, 0)) ∧ (∀ j, j < k → geS (nthT l u).2.1 (nthT l u).2.2.1 (nthT l j)) ∧ (∀ j, j < k → leS (nthT l v).2.1 (nthT l v).2.2.1 (nthT l j)) ∧ Below w.heap.size w wr) (fun i _ => len - (intOf i).toNat)
      case atStart => exact ⟨1, 0, 0, by omega, rfl, i00, i00, HG.out.2.2.1, HG.out.2.2.2.1, HG.out.1, HG.out.2.1, HG.out.2.2.2.2⟩
      case round =>
        obtain ⟨k, u, v, hk, rfl, hu, hv, hA, hB, hge, hle, hBr⟩ := hrel
        clear HG
        have hul : u < l.length := by rw [HH.out.2.2.2]; exact hu
        have hvl : v < l.length := by rw [HH.out.2.2.2]; exact hv
        have ou := (HH.out.1.2.2.2.2 u hul).1
        have ov := (HH.out.1.2.2.2.2 v hvl).1
        have a1 := blk_cell hA 1; have a2 := blk_cell hA 2
        have b1 := blk_cell hB 1; have b2 := blk_cell hB 2
        simp at a1 a2 b1 b2
        by_cases hlt : k < len
        · have hkl : k < l.length := by rw [HH.out.2.2.2]; exact hlt
          have ok := (HH.out.1.2.2.2.2 k hkl).1
          have i2 : (k : Int) < (len : Int) := by omega
          obtain ⟨c0, c1, c2, c3⟩ := (HM.out.1.grown hBr).2.2 k hlt
          have r0 := hBr.size
          have hdk : ∀ j, j < k → 0 ≤ (nthT l j).2.2.1 := fun j hj => by have := (HH.out.1.2.2.2.2 j (by omega)).1.2.2.2.2.1; omega
          have gu := mul_le1 ok.2.2.1 ok.2.2.2.1 ou.2.2.2.2.1 ou.2.2.2.2.2
          have gu' := mul_le1 ou.2.2.1 ou.2.2.2.1 ok.2.2.2.2.1 ok.2.2.2.2.2
          have gv := mul_le1 ok.2.2.1 ok.2.2.2.1 ov.2.2.2.2.1 ov.2.2.2.2.2
          have gv' := mul_le1 ov.2.2.1 ov.2.2.2.1 ok.2.2.2.2.1 ok.2.2.2.2.2
          have w1' : IntKind.i64.wrap ((nthT l k).2.1 * (nthT l u).2.2.1) = (nthT l k).2.1 * (nthT l u).2.2.1 := wrap_id (by omega)
          have w2' : IntKind.i64.wrap ((nthT l u).2.1 * (nthT l k).2.2.1) = (nthT l u).2.1 * (nthT l k).2.2.1 := wrap_id (by omega)
          have w3' : IntKind.i64.wrap ((nthT l k).2.1 * (nthT l v).2.2.1) = (nthT l k).2.1 * (nthT l v).2.2.1 := wrap_id (by omega)
          have w4' : IntKind.i64.wrap ((nthT l v).2.1 * (nthT l k).2.2.1) = (nthT l v).2.1 * (nthT l k).2.2.1 := wrap_id (by omega)
          have HF := Lib.hid (show _ ∧ _ ∧ _ ∧ _ ∧ _ ∧ _ ∧ _ ∧ _ ∧ _ from ⟨hA, hB, hge, hle, hBr, ou, ov, ok, hdk⟩)
          have uk : IntKind.i64.wrap ((k : Int) + 1) = (k : Int) + 1 := wrap_id (by omega)
          have f0 := blk_free hA 0; have f1 := blk_free hA 1; have f2 := blk_free hA 2; have f3 := blk_free hA 3
          have h0 := blk_free hB 0; have h1 := blk_free hB 1; have h2 := blk_free hB 2; have h3 := blk_free hB 3
          have a0 := blk_cell hA 0; have a3 := blk_cell hA 3
          have b0 := blk_cell hB 0; have b3 := blk_cell hB 3
          simp at a0 a3 b0 b3
          clear hA hB hge hle hBr ou ov ok gu gu' gv gv' hdk
          by_cases q1 : (nthT l k).2.1 * (nthT l u).2.2.1 < (nthT l u).2.1 * (nthT l k).2.2.1
          · have z1 : decide ((nthT l k).2.1 * (nthT l u).2.2.1 < (nthT l u).2.1 * (nthT l k).2.2.1) = true := decide_eq_true q1
            by_cases q2 : (nthT l v).2.1 * (nthT l k).2.2.1 < (nthT l k).2.1 * (nthT l v).2.2.1
            · have z2 : decide ((nthT l v).2.1 * (nthT l k).2.2.1 < (nthT l k).2.1 * (nthT l v).2.2.1) = true := decide_eq_true q2
              have HQ := Lib.hid (show _ ∧ _ from ⟨q1, q2⟩)
              clear q1 q2
              go_wp2
              go_quiet (fail)
              go_wp2
              go_quiet (fail)
              go_wp2
              go_roundw
              case rel => exact ⟨k + 1, k, k, by omega, by go_num, hlt, hlt, four_far (by omega) (four_set HF.out.1), four_set (four_far (by omega) HF.out.2.1), geS_new HF.out.2.2.1 HF.out.2.2.2.2.2.1 HF.out.2.2.2.2.2.2.2.1 HQ.out.1 HF.out.2.2.2.2.2.2.2.2, leS_new HF.out.2.2.2.1 HF.out.2.2.2.2.2.2.1 HF.out.2.2.2.2.2.2.2.1 HQ.out.2 HF.out.2.2.2.2.2.2.2.2, four_below (by omega) (below_drewN (four_below (by omega) (below_drewN HF.out.2.2.2.2.1)))⟩
              case measure => simp [intOf] <;> omega
            · have z2 : decide ((nthT l v).2.1 * (nthT l k).2.2.1 < (nthT l k).2.1 * (nthT l v).2.2.1) = false := decide_eq_false q2
              have HQ := Lib.hid (show _ ∧ _ from ⟨q1, q2⟩)
              clear q1 q2
              go_wp2
              go_quiet (fail)
              go_wp2
              go_quiet (fail)
              go_wp2
              go_roundw
              case rel => exact ⟨k + 1, k, v, by omega, by go_num, hlt, hv, four_set HF.out.1, four_far (by omega) HF.out.2.1, geS_new HF.out.2.2.1 HF.out.2.2.2.2.2.1 HF.out.2.2.2.2.2.2.2.1 HQ.out.1 HF.out.2.2.2.2.2.2.2.2, leS_old HF.out.2.2.2.1 (Int.not_lt.2 HQ.out.2), below_drewN (four_below (by omega) (below_drewN HF.out.2.2.2.2.1))⟩
              case measure => simp [intOf] <;> omega
          · have z1 : decide ((nthT l k).2.1 * (nthT l u).2.2.1 < (nthT l u).2.1 * (nthT l k).2.2.1) = false := decide_eq_false q1
            by_cases q2 : (nthT l v).2.1 * (nthT l k).2.2.1 < (nthT l k).2.1 * (nthT l v).2.2.1
            · have z2 : decide ((nthT l v).2.1 * (nthT l k).2.2.1 < (nthT l k).2.1 * (nthT l v).2.2.1) = true := decide_eq_true q2
              have HQ := Lib.hid (show _ ∧ _ from ⟨q1, q2⟩)
              clear q1 q2
              go_wp2
              go_quiet (fail)
              go_wp2
              go_quiet (fail)
              go_wp2
              go_roundw
              case rel => exact ⟨k + 1, u, k, by omega, by go_num, hu, hlt, four_far (by omega) HF.out.1, four_set HF.out.2.1, geS_old HF.out.2.2.1 (Int.not_lt.2 HQ.out.1), leS_new HF.out.2.2.2.1 HF.out.2.2.2.2.2.2.1 HF.out.2.2.2.2.2.2.2.1 HQ.out.2 HF.out.2.2.2.2.2.2.2.2, four_below (by omega) (below_drewN HF.out.2.2.2.2.1)⟩
              case measure => simp [intOf] <;> omega
            · have z2 : decide ((nthT l v).2.1 * (nthT l k).2.2.1 < (nthT l k).2.1 * (nthT l v).2.2.1) = false := decide_eq_false q2
              have HQ := Lib.hid (show _ ∧ _ from ⟨q1, q2⟩)
              clear q1 q2
              go_wp2
              go_quiet (fail)
              go_wp2
              go_quiet (fail)
              go_wp2
              go_roundw
              case rel => exact ⟨k + 1, u, v, by omega, by go_num, hu, hv, HF.out.1, HF.out.2.1, geS_old HF.out.2.2.1 (Int.not_lt.2 HQ.out.1), leS_old HF.out.2.2.2.1 (Int.not_lt.2 HQ.out.2), below_drewN HF.out.2.2.2.2.1⟩
              case measure => simp [intOf] <;> omega
        · obtain rfl : k = len := by omega
          have hlo := HH.out.2.1 _ _ (show 0 < (nthT l u).2.2.1 by have := ou.2.2.2.2.1; omega) (fun i hi => hge i (by rw [← HH.out.2.2.2]; exact hi))
          have hhi := HH.out.2.2.1 _ _ (show 0 < (nthT l v).2.2.1 by have := ov.2.2.2.2.1; omega) (fun i hi => hle i (by rw [← HH.out.2.2.2]; exact hi))
          rw [HH.out.2.2.2] at hlo hhi
          generalize hT : p - q = T at *
          have t1 : T ≤ 16777216 := by omega
          have tu := mul_le (show 0 ≤ T by omega) t1 (show 0 ≤ (nthT l u).2.1 by have := ou.2.2.1; omega) ou.2.2.2.1
          have tv := mul_le (show 0 ≤ T by omega) t1 (show 0 ≤ (nthT l v).2.1 by have := ov.2.2.1; omega) ov.2.2.2.1
          have du1 := ou.2.2.2.2.1; have dv1 := ov.2.2.2.2.1
          clear ou ov hge hle hA hB
          generalize (nthT l u).2.1 = uN at *
          generalize (nthT l u).2.2.1 = uD at *
          generalize (nthT l v).2.1 = vN at *
          generalize (nthT l v).2.2.1 = vD at *
          have w1' : IntKind.i64.wrap (T * uN) = T * uN := wrap_id (by omega)
          have w2' : IntKind.i64.wrap (T * vN) = T * vN := wrap_id (by omega)
          have w3' : Int.tdiv (T * uN) uD = T * uN / uD := Int.tdiv_eq_ediv_of_nonneg tu.1
          have w4' : Int.tdiv (T * vN) vD = T * vN / vD := Int.tdiv_eq_ediv_of_nonneg tv.1
          have qu0 : 0 ≤ T * uN / uD := Int.ediv_nonneg tu.1 (by omega)
          have qv0 : 0 ≤ T * vN / vD := Int.ediv_nonneg tv.1 (by omega)
          have qu1 : T * uN / uD ≤ T * uN := Int.ediv_le_self _ tu.1
          have qv1 : T * vN / vD ≤ T * vN := Int.ediv_le_self _ tv.1
          have w5' : IntKind.i64.wrap (Y - X) = Y - X := wrap_id (by omega)
          have w6' : IntKind.i64.wrap (T * uN / uD - (k : Int)) = T * uN / uD - (k : Int) := wrap_id (by omega)
          have w7' : IntKind.i64.wrap (T * vN / vD + (k : Int)) = T * vN / vD + (k : Int) := wrap_id (by omega)
          have du0 : (uD == 0) = false := by simp; omega
          have dv0 : (vD == 0) = false := by simp; omega
          have z3 : wrap64 (wrap64 (T * uN / uD) - (k : Int)) ≤ Y - X := by
            rw [IntWalk.wrap64_in (T * uN / uD) (by omega), IntWalk.wrap64_in _ (by omega)]; omega
          have z4 : decide (Y - X ≤ T * vN / vD + (k : Int)) = true := decide_eq_true (by omega)
          have e8 : wrap64 (T * vN / vD) = T * vN / vD := IntWalk.wrap64_in _ (by omega)
          have e9 : wrap64 (T * vN / vD + (k : Int)) = T * vN / vD + (k : Int) := IntWalk.wrap64_in _ (by omega)
          have HBr := Lib.hid hBr
          clear hBr hlo hhi tu tv qu0 qv0 qu1 qv1
          have HE := Lib.hid (show _ ∧ _ ∧ _ from ⟨e8, e9, z4⟩)
          clear e8 e9 z4
          go_wp2
          go_ret
          exact ⟨by rw [HE.out.1, HE.out.2.1, HE.out.2.2]; rfl, HBr.out⟩
end Go.Proofs.Ytcgndcapdodhlaa
