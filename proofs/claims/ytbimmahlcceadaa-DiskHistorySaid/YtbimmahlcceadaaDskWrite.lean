/- Write (layer 4). -/
import Derived.Test.YtbimmahlcceadaaDskCopy
import Derived.Test.YtbimmahlcceadaaDskStop
import Derived.Test.YtbimmahlcceadaaDskPen
namespace Go.Proofs.Ytbimmahlcceadaa
open Go.ChangeShapes Go.WideShapes Go.ChangeAt Go.RowKit
/-- What Write answers. -/
def WriteR (r : Bool) (P : List Wr) (lf : Int) (st : Bool) (sa : Option Addr) (sn sc pn : Nat) (i : Int) (l : List Int) (B : Nat) (w' : World) (e : Ending) : Prop :=
  (¬ (r = true ∧ 0 ≤ i ∧ i < (sn : Int)) ∧ e = .returned (.tuple #[.agg #[.slice none 0 0, .slice none 0 0, .int .i64 0, .bool false], .int .i64 40])) ∨
  (r = true ∧ 0 ≤ i ∧ i < (sn : Int) ∧ 128 < l.length ∧ e = .returned (.tuple #[.agg #[.slice none 0 0, .slice none 0 0, .int .i64 0, .bool false], .int .i64 1])) ∨
  (r = true ∧ 0 ≤ i ∧ i < (sn : Int) ∧ l.length ≤ 128 ∧ pn = 4096 ∧ e = .returned (.tuple #[.agg #[.slice none 0 0, .slice none 0 0, .int .i64 0, .bool false], .int .i64 2])) ∨
  (r = true ∧ 0 ≤ i ∧ i < (sn : Int) ∧ l.length ≤ 128 ∧ pn < 4096 ∧ ∃ (qa : Option Addr) (qb qc : Nat) (Y : Sl), Y.2.2 = padL l ∧ pn + 1 ≤ qc ∧ B ≤ qb ∧ SlG w' B Y ∧ Pens w' qa qb 0 (pn + 1) (P ++ [(i, Y)]) ∧ e = .returned (.tuple #[.agg #[.slice sa sn sc, .slice qa (pn + 1) qc, .int .i64 lf, .bool st], .int .i64 0]))
theorem runB_pen {S : List Sl} {P : List Wr} {lf : Int} {st : Bool} (h : runB ⟨S, P, lf, st⟩ = true) : P.length ≤ 4096 := by
  have := @of_decide_eq_true _ (Classical.propDecidable _) h
  exact this.1.1.2.2.1
theorem pens_snoc {w : World} {v : Value} {B : Nat} {P : List Wr} {m : Wr} {n : Nat} (h : PenO w B v (P ++ [m])) (hn : P.length = n) (hP : ∀ i, i < n → SlR w (nW P i).2) (hm : SlR w m.2) : ∃ qa qb qc, v = .slice qa (n + 1) qc ∧ n + 1 ≤ qc ∧ Pens w qa qb 0 (n + 1) (P ++ [m]) ∧ B ≤ qb := by
  obtain ⟨qa, qb, qc, h1, h2, h3, h4, h5, h6⟩ := h.s
  rw [List.length_append, hn] at h1 h2 h4 h6
  refine ⟨qa, qb, qc, h1, h4, h2.pens fun i hi => ?_, h6 (by simp)⟩
  by_cases e : i < n
  · rw [nW_app_l (by omega)]
    exact hP i e
  · obtain rfl : i = P.length := by simp at hi; omega
    rw [nW_app_r]
    exact hm
theorem PenO.keep {w w' : World} {B : Nat} {v : Value} {l : List Wr} (h : PenO w B v l) (he : ∀ k, B ≤ k → w'.heap[k]? = w.heap[k]?) : PenO w' B v l := by
  refine ⟨h.1, ?_⟩
  rcases h.2 with h0 | ⟨g, cap, cur, h1, h2, h3, h4⟩
  · exact .inl h0
  · exact .inr ⟨g, cap, cur, h1, h2, (he g h2).trans h3, h4⟩
theorem cell4_keep {w : World} {b k : Nat} {u0 u1 u2 u3 : Value} (hk : k ≠ b) : ((((w.setCell ⟨b, 0, none⟩ u0).setCell ⟨b, 1, none⟩ u1).setCell ⟨b, 2, none⟩ u2).setCell ⟨b, 3, none⟩ u3).heap[k]? = w.heap[k]? := by
  rw [heap_setCell_other _ _ _ _ hk, heap_setCell_other _ _ _ _ hk, heap_setCell_other _ _ _ _ hk, heap_setCell_other _ _ _ _ hk]
set_option maxRecDepth 100000 in
set_option maxHeartbeats 4000000 in
theorem write_any (S : List Sl) (P : List Wr) (lf : Int) (st : Bool) (sa : Option Addr) (sb so sn sc : Nat) (pa : Option Addr) (pb po pn pc : Nat) (i : Int) (X : Sl) (w : World) (hS : Secs w sa sb so sn S) (hP : Pens w pa pb po pn P) (hX : SlR w X) (hsn : sn ≤ 9223372036854775807) (hpn : pn ≤ 9223372036854775807) (hpc : pn ≤ pc) (hlX : X.2.2.length ≤ 9223372036854775807) :
    Calls Try.prog 19 #[.agg #[.slice sa sn sc, .slice pa pn pc, .int .i64 lf, .bool st], .int .i64 i, .slice X.1 X.2.2.length X.2.1] w fun e w' => WriteR (runB ⟨S, P, lf, st⟩) P lf st sa sn sc pn i X.2.2 w.heap.size w' e ∧ Below w.heap.size w w' := by
  have HH := Lib.hid (show _ ∧ _ ∧ _ from ⟨hS, hP, hX⟩)
  have hl0 : ((X.2.2.length : Nat) : Int) ≤ 9223372036854775807 := by omega
  clear hS hP hX
  have km := run_make128
  go_enter Try.func19, Try.ntmps19
  go_upto_region 1 with fail
  have hbx := blk_alloc (blk_new w (.cells #[.slice sa sn sc, .slice pa pn pc, .int .i64 lf, .bool st] 25)) (.cells #[.slice none 0 0, .slice none 0 0, .int .i64 0, .bool false] 25)
  have hbz := blkZ (W := w.alloc (.cells #[.slice sa sn sc, .slice pa pn pc, .int .i64 lf, .bool st] 25)) (o := .cells #[.slice none 0 0, .slice none 0 0, .int .i64 0, .bool false] 25) (k := w.heap.size + 1) (by simp)
  have hb0 : Below w.heap.size w ((w.alloc (.cells #[.slice sa sn sc, .slice pa pn pc, .int .i64 lf, .bool st] 25)).alloc (.cells #[.slice none 0 0, .slice none 0 0, .int .i64 0, .bool false] 25)) := ((Below.refl _ _).alloc (Nat.le_refl _) _).alloc (by simp) _
  have hlt := blk_lt hbx
  have hlz := blk_lt hbz
  generalize (w.alloc (.cells #[.slice sa sn sc, .slice pa pn pc, .int .i64 lf, .bool st] 25)).alloc (.cells #[.slice none 0 0, .slice none 0 0, .int .i64 0, .bool false] 25) = W1 at *
  have x0 := blk_cell hbx 0
  have x1 := blk_cell hbx 1
  have x2 := blk_cell hbx 2
  have x3 := blk_cell hbx 3
  have H1 := Lib.hid (show _ ∧ _ ∧ _ ∧ _ ∧ _ from ⟨hbx, hbz, hb0, hlt, hlz⟩)
  clear hbx hbz hb0 hlt hlz
  go_wp2_with fail
  refine (runs_any S P lf st sa sb so sn sc pa pb po pn pc W1 (HH.out.1.below H1.out.2.2.1 (Nat.le_refl _)) (HH.out.2.1.below H1.out.2.2.1 (Nat.le_refl _)) hsn hpn).mono ?_
  rintro e W2 ⟨rfl, hb2⟩
  have hbx := blk_below H1.out.1 hb2 H1.out.2.2.2.1
  have hbz := blk_below H1.out.2.1 hb2 H1.out.2.2.2.2
  have hb := H1.out.2.2.1.trans (hb2.mono H1.out.2.2.1.size)
  have hlt := blk_lt hbx
  have hlz := blk_lt hbz
  clear x0 x1 x2 x3 hb2 H1
  have x0 := blk_cell hbx 0
  have x1 := blk_cell hbx 1
  have x2 := blk_cell hbx 2
  have x3 := blk_cell hbx 3
  have z0 := blk_cell hbz 0
  have z1 := blk_cell hbz 1
  have z2 := blk_cell hbz 2
  have z3 := blk_cell hbz 3
  have f0 := blk_free hbz 0
  have f1 := blk_free hbz 1
  have f2 := blk_free hbz 2
  have f3 := blk_free hbz 3
  have H2 := Lib.hid (show _ ∧ _ ∧ _ ∧ _ ∧ _ from ⟨hbx, hbz, hb, hlt, hlz⟩)
  clear hbx hbz hb hlt hlz
  by_cases hr : runB ⟨S, P, lf, st⟩ = true
  · have HR := Lib.hid hr
    rw [hr]
    have hpn' : pn ≤ 4096 := by rw [← HH.out.2.1.len]; exact runB_pen hr
    clear hr z0 z1 z2 z3 f0 f1 f2 f3
    go_wp2_with fail
    refine (sector_any _ sa sn sc lf st i W2).mono ?_
    rintro e W3 ⟨rfl, hb3⟩
    have hbx := blk_below H2.out.1 hb3 H2.out.2.2.2.1
    have hbz := blk_below H2.out.2.1 hb3 H2.out.2.2.2.2
    have hb := H2.out.2.2.1.trans (hb3.mono H2.out.2.2.1.size)
    have hlt := blk_lt hbx
    have hlz := blk_lt hbz
    clear x0 x1 x2 x3 hb3 H2
    have x0 := blk_cell hbx 0
    have x1 := blk_cell hbx 1
    have x2 := blk_cell hbx 2
    have x3 := blk_cell hbx 3
    have z0 := blk_cell hbz 0
    have z1 := blk_cell hbz 1
    have z2 := blk_cell hbz 2
    have z3 := blk_cell hbz 3
    have f0 := blk_free hbz 0
    have f1 := blk_free hbz 1
    have f2 := blk_free hbz 2
    have f3 := blk_free hbz 3
    have H3 := Lib.hid (show _ ∧ _ ∧ _ ∧ _ ∧ _ from ⟨hbx, hbz, hb, hlt, hlz⟩)
    clear hbx hbz hb hlt hlz
    by_cases hs : 0 ≤ i ∧ i < (sn : Int)
    · rw [sctB_t hs.1 hs.2]
      have HSct := Lib.hid hs
      clear hs
      by_cases hl : 128 < X.2.2.length
      · have c1 : (128 : Int) < ((X.2.2.length : Nat) : Int) := by omega
        have HL := Lib.hid hl
        go_wp2
        refine bodyPost_ret (v := .tuple #[.agg #[.slice none 0 0, .slice none 0 0, .int .i64 0, .bool false], .int .i64 1]) ?_ rfl ⟨.inr (.inl ⟨HR.out, HSct.out.1, HSct.out.2, HL.out, rfl⟩), cell4_below (show w.heap.size ≤ w.heap.size + 1 by omega) H3.out.2.2.1⟩
        exact results_dk_tmp Try.results19 _ _ (w.heap.size + 1) 25 #[.slice none 0 0, .slice none 0 0, .int .i64 0, .bool false] (0, 0) rfl (cell4_set H3.out.2.1) (by kernel_rfl) _ rfl
      have c1 : ¬ (128 : Int) < ((X.2.2.length : Nat) : Int) := by omega
      have HL := Lib.hid (show X.2.2.length ≤ 128 by omega)
      clear hl hl0 hlX
      by_cases hp : pn = 4096
      · subst hp
        go_wp2
        refine bodyPost_ret (v := .tuple #[.agg #[.slice none 0 0, .slice none 0 0, .int .i64 0, .bool false], .int .i64 2]) ?_ rfl ⟨.inr (.inr (.inl ⟨HR.out, HSct.out.1, HSct.out.2, HL.out, rfl, rfl⟩)), cell4_below (show w.heap.size ≤ w.heap.size + 1 by omega) H3.out.2.2.1⟩
        exact results_dk_tmp Try.results19 _ _ (w.heap.size + 1) 25 #[.slice none 0 0, .slice none 0 0, .int .i64 0, .bool false] (0, 0) rfl (cell4_set H3.out.2.1) (by kernel_rfl) _ rfl
      have HP := Lib.hid (show pn < 4096 by omega)
      have c2 : ((pn : Int) == 4096) = false := by simp; omega
      clear hp hpn'
      go_upto_region 8 with fail
      have hnb := blk_new W3 (.cells (bV z128) 5)
      have hbx := blk_alloc H3.out.1 (.cells (bV z128) 5)
      have hbz := blk_alloc H3.out.2.1 (.cells (bV z128) 5)
      have hb := H3.out.2.2.1.alloc H3.out.2.2.1.size (.cells (bV z128) 5)
      have hg := H3.out.2.2.2.2
      have hgs : W3.heap.size < (W3.alloc (.cells (bV z128) 5)).heap.size := blk_lt hnb
      generalize W3.alloc (.cells (bV z128) 5) = W4 at *
      clear x0 x1 x2 x3 z0 z1 z2 z3 f0 f1 f2 f3 km
      go_wp2_with (with_reducible refine held (o := ⟨some 35, _, _, _, _, _⟩) ?_)
      unfold Held
      refine wpList_copy_bytes rfl (.tmp 33) (.tmp 34) rfl W3.heap.size 0 128 128 z128 5 hnb rfl X (HH.out.2.2.below hb (Nat.le_refl _)) rfl (by rw [z128_len]; omega) W3.heap.size W4 (Below.refl _ _) (Nat.le_refl _) ?_
      intro W5 hG hB5
      rw [splice_pad HL.out] at hG
      have hbx5 := blk_below hbx hB5 (by omega)
      have hbz5 := blk_below hbz hB5 (by omega)
      have hb5 := hb.trans (hB5.mono H3.out.2.2.1.size)
      have hs5 := hB5.size
      clear hbx hbz hb hnb hB5
      have x0 := blk_cell hbx5 0
      have x1 := blk_cell hbx5 1
      have x2 := blk_cell hbx5 2
      have x3 := blk_cell hbx5 3
      have z0 := blk_cell hbz5 0
      have z1 := blk_cell hbz5 1
      have z2 := blk_cell hbz5 2
      have z3 := blk_cell hbz5 3
      have f0 := blk_free hbz5 0
      have f1 := blk_free hbz5 1
      have f2 := blk_free hbz5 2
      have f3 := blk_free hbz5 3
      have H5 := Lib.hid (show _ ∧ _ ∧ _ ∧ _ from ⟨hbx5, hbz5, hb5, hG.out⟩)
      clear hbx5 hbz5 hb5 hG
      go_upto_region 10 with fail
      have hz6 := cell4_set (u0 := .slice sa sn sc) (u1 := .slice pa pn pc) (u2 := .int .i64 lf) (u3 := .bool st) H5.out.2.1
      have hx6 := cell4_other (u0 := .slice sa sn sc) (u1 := .slice pa pn pc) (u2 := .int .i64 lf) (u3 := .bool st) H5.out.1 (show w.heap.size ≠ w.heap.size + 1 by omega)
      have hd6 := cell4_other (u0 := .slice sa sn sc) (u1 := .slice pa pn pc) (u2 := .int .i64 lf) (u3 := .bool st) H5.out.2.2.2 (show W3.heap.size ≠ w.heap.size + 1 by omega)
      have hb6 := cell4_below (u0 := .slice sa sn sc) (u1 := .slice pa pn pc) (u2 := .int .i64 lf) (u3 := .bool st) (show w.heap.size ≤ w.heap.size + 1 by omega) H5.out.2.2.1
      generalize (((W5.setCell ⟨w.heap.size + 1, 0, none⟩ (.slice sa sn sc)).setCell ⟨w.heap.size + 1, 1, none⟩ (.slice pa pn pc)).setCell ⟨w.heap.size + 1, 2, none⟩ (.int .i64 lf)).setCell ⟨w.heap.size + 1, 3, none⟩ (.bool st) = W6 at *
      clear x0 x1 x2 x3 z0 z1 z2 z3 f0 f1 f2 f3
      have x0 := blk_cell hx6 0
      have x1 := blk_cell hx6 1
      have z1 := blk_cell hz6 1
      have f1 := blk_free hz6 1
      have H6 := Lib.hid (show _ ∧ _ ∧ _ ∧ _ from ⟨hx6, hz6, hb6, hd6⟩)
      have hlt6 := blk_lt hz6
      have hlt6x := blk_lt hx6
      clear hx6 hz6 hb6 hd6
      have c3 : (pn : Int) ≤ (pc : Int) := by omega
      go_wp2_with (with_reducible refine held (o := ⟨some 49, _, _, _, _, _⟩) ?_)
      unfold Held
      have hnw := blk_new W6 (.cells #[.int .i64 i, .slice (some ⟨W3.heap.size, 0, none⟩) 128 128] 54)
      have hx7 := blk_alloc H6.out.1 (.cells #[.int .i64 i, .slice (some ⟨W3.heap.size, 0, none⟩) 128 128] 54)
      have hz7 := blk_alloc H6.out.2.1 (.cells #[.int .i64 i, .slice (some ⟨W3.heap.size, 0, none⟩) 128 128] 54)
      have hd7 := blk_alloc H6.out.2.2.2 (.cells #[.int .i64 i, .slice (some ⟨W3.heap.size, 0, none⟩) 128 128] 54)
      have hb7 := H6.out.2.2.1.alloc H6.out.2.2.1.size (.cells #[.int .i64 i, .slice (some ⟨W3.heap.size, 0, none⟩) 128 128] 54)
      have hlt7 := blk_lt hnw
      have hs7 : (W6.alloc (.cells #[.int .i64 i, .slice (some ⟨W3.heap.size, 0, none⟩) 128 128] 54)).heap.size = W6.heap.size + 1 := by simp
      generalize W6.alloc (.cells #[.int .i64 i, .slice (some ⟨W3.heap.size, 0, none⟩) 128 128] 54) = W7 at *
      obtain ⟨Y, hY⟩ : ∃ Y : Sl, Y = (some ⟨W3.heap.size, 0, none⟩, 128, padL X.2.2) := ⟨_, rfl⟩
      have hsv : slV Y = .slice (some ⟨W3.heap.size, 0, none⟩) 128 128 := by rw [hY]; simp [slV, padL_len HL.out]
      have hpl : (padL X.2.2).length = 128 := padL_len HL.out
      have hW3 : W3.heap.size < W7.heap.size := blk_lt hd7
      refine wpList_append_pfull rfl (.tmp 44) (.tmp 48) rfl pa pb po pn P rfl (HH.out.2.1.below hb7 (Nat.le_refl _)).hd W6.heap.size (i, Y) rfl 54 (0, 0) (by rw [hsv]; exact hnw) (by have := HP.out; omega) ?_
      intro v' W8 hO hB8
      have hx8 := blk_below hx7 hB8 (by omega)
      have hz8 := blk_below hz7 hB8 (by omega)
      have hd8 := blk_below hd7 hB8 (by omega)
      have hb8 := hb7.trans (hB8.mono hb7.size)
      have hY8 : SlR W8 Y := by
        rw [hY]
        have := slr_of hd8
        rwa [hpl] at this
      obtain ⟨qa, qb, qc, rfl, hqc, hPq, -⟩ := pens_snoc hO HH.out.2.1.len (fun k hk => (HH.out.2.1.row k hk).below hb8 (Nat.le_refl _)) hY8
      clear hx7 hz7 hd7 hb7 hnw hB8 x0 x1 z1 f1
      have z1 := blk_cell hz8 1
      have f1 := blk_free hz8 1
      have H8 := Lib.hid (show _ ∧ _ ∧ _ ∧ _ ∧ _ ∧ _ ∧ _ from ⟨hx8, hz8, hd8, hb8, hO, hqc, hY⟩)
      clear hx8 hz8 hd8 hb8 hO hqc hPq hY hY8 hsv
      go_upto_region 12 with fail
      have hz9 : (W8.setCell ⟨w.heap.size + 1, 1, none⟩ (.slice qa (pn + 1) qc)).heap[w.heap.size + 1]? = some (.cells #[.slice sa sn sc, .slice qa (pn + 1) qc, .int .i64 lf, .bool st] 25 (0, 0)) := cells_setU H8.out.2.1
      have hb9 := H8.out.2.2.2.1.setCell (p := ⟨w.heap.size + 1, 1, none⟩) (show w.heap.size ≤ w.heap.size + 1 by omega) (.slice qa (pn + 1) qc)
      have hk9 : ∀ k, k ≠ w.heap.size + 1 → (W8.setCell ⟨w.heap.size + 1, 1, none⟩ (.slice qa (pn + 1) qc)).heap[k]? = W8.heap[k]? := fun k hk => Below.heap_setCell _ _ _ _ hk
      generalize W8.setCell ⟨w.heap.size + 1, 1, none⟩ (.slice qa (pn + 1) qc) = W9 at *
      clear z1 f1
      have z0 := blk_cell hz9 0
      have z1 := blk_cell hz9 1
      have z2 := blk_cell hz9 2
      have z3 := blk_cell hz9 3
      have f0 := blk_free hz9 0
      have f1 := blk_free hz9 1
      have f2 := blk_free hz9 2
      have f3 := blk_free hz9 3
      have H9 := Lib.hid (show _ ∧ _ ∧ _ from ⟨hz9, hb9, hk9⟩)
      clear hz9 hb9 hk9
      go_wp2
      have hbF := cell4_below (u0 := .slice sa sn sc) (u1 := .slice qa (pn + 1) qc) (u2 := .int .i64 lf) (u3 := .bool st) (show w.heap.size ≤ w.heap.size + 1 by omega) H9.out.2.1
      have hkF : ∀ k, k ≠ w.heap.size + 1 → ((((W9.setCell ⟨w.heap.size + 1, 0, none⟩ (.slice sa sn sc)).setCell ⟨w.heap.size + 1, 1, none⟩ (.slice qa (pn + 1) qc)).setCell ⟨w.heap.size + 1, 2, none⟩ (.int .i64 lf)).setCell ⟨w.heap.size + 1, 3, none⟩ (.bool st)).heap[k]? = W8.heap[k]? := fun k hk => (cell4_keep hk).trans (H9.out.2.2 k hk)
      refine bodyPost_ret (v := .tuple #[.agg #[.slice sa sn sc, .slice qa (pn + 1) qc, .int .i64 lf, .bool st], .int .i64 0]) ?_ rfl ⟨.inr (.inr (.inr ⟨HR.out, HSct.out.1, HSct.out.2, HL.out, HP.out, ?_⟩)), hbF⟩
      · exact results_dk_tmp Try.results19 _ _ (w.heap.size + 1) 25 #[.slice sa sn sc, .slice qa (pn + 1) qc, .int .i64 lf, .bool st] (0, 0) rfl (cell4_set H9.out.1) (by kernel_rfl) _ rfl
      · have hOF := H8.out.2.2.2.2.1.keep (fun k hk => hkF k (by omega))
        have hdF := (hkF W3.heap.size (by omega)).trans H8.out.2.2.1
        have hYF := slg_of hdF (B := w.heap.size) (by have := H8.out.2.2.2.1; omega)
        rw [hpl, ← H8.out.2.2.2.2.2.2] at hYF
        obtain ⟨qa', qb', qc', he, hqc', hPq', hqB⟩ := pens_snoc hOF HH.out.2.1.len (fun k hk => (HH.out.2.1.row k hk).below hbF (Nat.le_refl _)) hYF.r
        cases he
        exact ⟨qa, qb', qc, Y, by rw [H8.out.2.2.2.2.2.2], H8.out.2.2.2.2.2.1, by have := H8.out.2.2.2.1.size; omega, hYF, hPq', rfl⟩
    · rw [sctB_f (by omega)]
      have HSct := Lib.hid hs
      clear hs
      go_wp2
      refine bodyPost_ret (v := .tuple #[.agg #[.slice none 0 0, .slice none 0 0, .int .i64 0, .bool false], .int .i64 40]) ?_ rfl ⟨.inl ⟨fun h => HSct.out h.2, rfl⟩, cell4_below (show w.heap.size ≤ w.heap.size + 1 by omega) H3.out.2.2.1⟩
      exact results_dk_tmp Try.results19 _ _ (w.heap.size + 1) 25 #[.slice none 0 0, .slice none 0 0, .int .i64 0, .bool false] (0, 0) rfl (cell4_set H3.out.2.1) (by kernel_rfl) _ rfl
  · have HR := Lib.hid hr
    rw [show runB ⟨S, P, lf, st⟩ = false by simpa using hr]
    clear hr
    go_wp2
    refine bodyPost_ret (v := .tuple #[.agg #[.slice none 0 0, .slice none 0 0, .int .i64 0, .bool false], .int .i64 40]) ?_ rfl ⟨.inl ⟨fun h => HR.out (by simpa using h.1), rfl⟩, cell4_below (show w.heap.size ≤ w.heap.size + 1 by omega) H2.out.2.2.1⟩
    exact results_dk_tmp Try.results19 _ _ (w.heap.size + 1) 25 #[.slice none 0 0, .slice none 0 0, .int .i64 0, .bool false] (0, 0) rfl (cell4_set H2.out.2.1) (by kernel_rfl) _ rfl
end Go.Proofs.Ytbimmahlcceadaa
