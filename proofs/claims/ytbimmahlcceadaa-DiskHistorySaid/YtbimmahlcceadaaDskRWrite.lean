/- The reference's Write (layer 4). -/
import Derived.Test.YtbimmahlcceadaaDskWrite
import Derived.Test.YtbimmahlcceadaaOwnBRow
namespace Go.Proofs.Ytbimmahlcceadaa
open Go.ChangeShapes Go.WideShapes Go.ChangeAt Go.RowKit
theorem pad_snoc (l : List Int) (k : Nat) : l ++ List.replicate k 0 ++ [0] = l ++ List.replicate (k + 1) 0 := by
  rw [List.append_assoc, ← List.replicate_succ']
theorem sl_of_byts {w : World} {B n cap : Nat} {a : Option Addr} {l : List Int} (h : Byts w B (.slice a n cap) l) (hn : 0 < l.length) : SlR w (a, cap, l) := by
  obtain ⟨a', b, cap', he, hR, hc, _⟩ := h.row
  cases he
  exact ⟨b, 0, hR, fun e => (by have := hR.adr hn; rw [show a = none from e] at this; cases this), hc⟩
theorem slg_of_byts {w : World} {B n cap : Nat} {a : Option Addr} {l : List Int} (h : Byts w B (.slice a n cap) l) (hn : 0 < l.length) : SlG w B (a, cap, l) := by
  rcases h.2 with ⟨_, h0⟩ | ⟨g, c, cur, h1, h2, h3, h4, h5, h6, h7⟩
  · omega
  · obtain ⟨a', b, cap', he, hR, hc, _⟩ := h.row
    cases he
    cases h1
    have := hR.adr hn
    cases this
    exact ⟨_, 0, h2, hR, fun e => (by cases e), hc⟩
theorem Byts.keep {w w' : World} {B : Nat} {v : Value} {l : List Int} (h : Byts w B v l) (he : ∀ k, B ≤ k → k < w.heap.size → w'.heap[k]? = w.heap[k]?) : Byts w' B v l := by
  refine ⟨h.1, ?_⟩
  rcases h.2 with h0 | ⟨g, cap, cur, h1, h2, h3, h4⟩
  · exact .inl h0
  · exact .inr ⟨g, cap, cur, h1, h2, (he g h2 (blk_lt h3)).trans h3, h4⟩
set_option maxRecDepth 100000 in
set_option maxHeartbeats 4000000 in
theorem rwrite_any (S : List Sl) (P : List Wr) (lf : Int) (st : Bool) (sa : Option Addr) (sb so sn sc : Nat) (pa : Option Addr) (pb po pn pc : Nat) (i : Int) (X : Sl) (w : World) (hS : Secs w sa sb so sn S) (hP : Pens w pa pb po pn P) (hX : SlR w X) (hsn : sn ≤ 9223372036854775807) (hpn : pn ≤ 9223372036854775807) (hpc : pa = none → pc = 0) (hlX : X.2.2.length ≤ 9223372036854775807) :
    Calls Try.prog 20 #[.agg #[.slice sa sn sc, .slice pa pn pc, .int .i64 lf, .bool st], .int .i64 i, .slice X.1 X.2.2.length X.2.1] w fun e w' => WriteR (runB ⟨S, P, lf, st⟩) P lf st sa sn sc pn i X.2.2 w.heap.size w' e ∧ Below w.heap.size w w' := by
  have HH := Lib.hid (show _ ∧ _ ∧ _ from ⟨hS, hP, hX⟩)
  have hl0 : ((X.2.2.length : Nat) : Int) ≤ 9223372036854775807 := by omega
  clear hS hP hX
  go_enter Try.func20, Try.ntmps20
  go_upto_region 1 with fail
  have hbx := blk_alloc (blk_new w (.cells #[.slice sa sn sc, .slice pa pn pc, .int .i64 lf, .bool st] 25)) (.cells #[.slice none 0 0, .slice none 0 0, .int .i64 0, .bool false] 25)
  have hbz := blkZ (W := w.alloc (.cells #[.slice sa sn sc, .slice pa pn pc, .int .i64 lf, .bool st] 25)) (o := .cells #[.slice none 0 0, .slice none 0 0, .int .i64 0, .bool false] 25) (k := w.heap.size + 1) (by simp)
  have hb0 : Below w.heap.size w ((w.alloc (.cells #[.slice sa sn sc, .slice pa pn pc, .int .i64 lf, .bool st] 25)).alloc (.cells #[.slice none 0 0, .slice none 0 0, .int .i64 0, .bool false] 25)) := ((Below.refl _ _).alloc (Nat.le_refl _) _).alloc (by simp) _
  have hlt := blk_lt hbx
  have hlz := blk_lt hbz
  generalize (w.alloc (.cells #[.slice sa sn sc, .slice pa pn pc, .int .i64 lf, .bool st] 25)).alloc (.cells #[.slice none 0 0, .slice none 0 0, .int .i64 0, .bool false] 25) = W1 at *
  have x0 := blk_cell hbx 0
  have x1 := blk_cell hbx 1
  have x2 := blk_cell hbx 2
  have x3 := blk_cell hbx 3
  have H1 := Lib.hid (show _ ∧ _ ∧ _ ∧ _ ∧ _ from ⟨hbx, hbz, hb0, hlt, hlz⟩)
  clear hbx hbz hb0 hlt hlz
  go_wp2_with fail
  refine (rcheck_any S P lf st sa sb so sn sc pa pb po pn pc W1 (HH.out.1.below H1.out.2.2.1 (Nat.le_refl _)) (HH.out.2.1.below H1.out.2.2.1 (Nat.le_refl _)) hsn hpn).mono ?_
  rintro e W2 ⟨rfl, hb2⟩
  have hbx := blk_below H1.out.1 hb2 H1.out.2.2.2.1
  have hbz := blk_below H1.out.2.1 hb2 H1.out.2.2.2.2
  have hb := H1.out.2.2.1.trans (hb2.mono H1.out.2.2.1.size)
  have hlt := blk_lt hbx
  have hlz := blk_lt hbz
  clear x0 x1 x2 x3 hb2 H1
  have x0 := blk_cell hbx 0
  have x1 := blk_cell hbx 1
  have x2 := blk_cell hbx 2
  have x3 := blk_cell hbx 3
  have z0 := blk_cell hbz 0
  have z1 := blk_cell hbz 1
  have z2 := blk_cell hbz 2
  have z3 := blk_cell hbz 3
  have f0 := blk_free hbz 0
  have f1 := blk_free hbz 1
  have f2 := blk_free hbz 2
  have f3 := blk_free hbz 3
  have H2 := Lib.hid (show _ ∧ _ ∧ _ ∧ _ ∧ _ from ⟨hbx, hbz, hb, hlt, hlz⟩)
  clear hbx hbz hb hlt hlz
  by_cases hv : Valid ⟨S, P, lf, st⟩
  case neg =>
    rw [chkE_bad hv]
    have HR := Lib.hid (show ¬ (runB ⟨S, P, lf, st⟩ = true ∧ 0 ≤ i ∧ i < (sn : Int)) from fun h => by rw [runB_f (fun g => hv g.1)] at h; exact absurd h.1 (by simp))
    clear hv
    go_wp2
    refine bodyPost_ret (v := .tuple #[.agg #[.slice none 0 0, .slice none 0 0, .int .i64 0, .bool false], .int .i64 40]) ?_ rfl ⟨.inl ⟨HR.out, rfl⟩, cell4_below (show w.heap.size ≤ w.heap.size + 1 by omega) H2.out.2.2.1⟩
    exact results_dk_tmp Try.results20 _ _ (w.heap.size + 1) 25 #[.slice none 0 0, .slice none 0 0, .int .i64 0, .bool false] (0, 0) rfl (cell4_set H2.out.2.1) (by kernel_rfl) _ rfl
  rw [chkE_ok hv]
  cases st
  case true =>
    have HR := Lib.hid (show ¬ (runB ⟨S, P, lf, true⟩ = true ∧ 0 ≤ i ∧ i < (sn : Int)) from fun h => by rw [runB_f (fun g => by cases g.2)] at h; exact absurd h.1 (by simp))
    clear hv
    go_wp2
    refine bodyPost_ret (v := .tuple #[.agg #[.slice none 0 0, .slice none 0 0, .int .i64 0, .bool false], .int .i64 40]) ?_ rfl ⟨.inl ⟨HR.out, rfl⟩, cell4_below (show w.heap.size ≤ w.heap.size + 1 by omega) H2.out.2.2.1⟩
    exact results_dk_tmp Try.results20 _ _ (w.heap.size + 1) 25 #[.slice none 0 0, .slice none 0 0, .int .i64 0, .bool false] (0, 0) rfl (cell4_set H2.out.2.1) (by kernel_rfl) _ rfl
  have HR := Lib.hid (runB_t hv rfl)
  have hpn' : pn ≤ 4096 := by rw [← HH.out.2.1.len]; exact runB_pen HR.out
  clear hv
  by_cases c0 : i < 0
  · have HC := Lib.hid c0
    go_wp2
    refine bodyPost_ret (v := .tuple #[.agg #[.slice none 0 0, .slice none 0 0, .int .i64 0, .bool false], .int .i64 40]) ?_ rfl ⟨.inl ⟨fun h => by have := HC.out; omega, rfl⟩, cell4_below (show w.heap.size ≤ w.heap.size + 1 by omega) H2.out.2.2.1⟩
    exact results_dk_tmp Try.results20 _ _ (w.heap.size + 1) 25 #[.slice none 0 0, .slice none 0 0, .int .i64 0, .bool false] (0, 0) rfl (cell4_set H2.out.2.1) (by kernel_rfl) _ rfl
  by_cases c1 : (sn : Int) ≤ i
  · have HC := Lib.hid c1
    go_wp2
    refine bodyPost_ret (v := .tuple #[.agg #[.slice none 0 0, .slice none 0 0, .int .i64 0, .bool false], .int .i64 40]) ?_ rfl ⟨.inl ⟨fun h => by have := HC.out; omega, rfl⟩, cell4_below (show w.heap.size ≤ w.heap.size + 1 by omega) H2.out.2.2.1⟩
    exact results_dk_tmp Try.results20 _ _ (w.heap.size + 1) 25 #[.slice none 0 0, .slice none 0 0, .int .i64 0, .bool false] (0, 0) rfl (cell4_set H2.out.2.1) (by kernel_rfl) _ rfl
  have HC := Lib.hid (show 0 ≤ i ∧ i < (sn : Int) by omega)
  by_cases hl : 128 < X.2.2.length
  · have c1 : (128 : Int) < ((X.2.2.length : Nat) : Int) := by omega
    have HL := Lib.hid hl
    go_wp2
    refine bodyPost_ret (v := .tuple #[.agg #[.slice none 0 0, .slice none 0 0, .int .i64 0, .bool false], .int .i64 1]) ?_ rfl ⟨.inr (.inl ⟨HR.out, HC.out.1, HC.out.2, HL.out, rfl⟩), cell4_below (show w.heap.size ≤ w.heap.size + 1 by omega) H2.out.2.2.1⟩
    exact results_dk_tmp Try.results20 _ _ (w.heap.size + 1) 25 #[.slice none 0 0, .slice none 0 0, .int .i64 0, .bool false] (0, 0) rfl (cell4_set H2.out.2.1) (by kernel_rfl) _ rfl
  have c2 : ¬ (128 : Int) < ((X.2.2.length : Nat) : Int) := by omega
  have HL := Lib.hid (show X.2.2.length ≤ 128 by omega)
  clear hl hl0 hlX
  by_cases hp : pn = 4096
  · subst hp
    go_wp2
    refine bodyPost_ret (v := .tuple #[.agg #[.slice none 0 0, .slice none 0 0, .int .i64 0, .bool false], .int .i64 2]) ?_ rfl ⟨.inr (.inr (.inl ⟨HR.out, HC.out.1, HC.out.2, HL.out, rfl, rfl⟩)), cell4_below (show w.heap.size ≤ w.heap.size + 1 by omega) H2.out.2.2.1⟩
    exact results_dk_tmp Try.results20 _ _ (w.heap.size + 1) 25 #[.slice none 0 0, .slice none 0 0, .int .i64 0, .bool false] (0, 0) rfl (cell4_set H2.out.2.1) (by kernel_rfl) _ rfl
  have HP := Lib.hid (show pn < 4096 by omega)
  have c3 : ((pn : Int) == 4096) = false := by simp; omega
  clear hp hpn'
  go_wp2_with (with_reducible refine held (o := ⟨some 39, _, _, _, _, _⟩) ?_)
  unfold Held
  have hbx := blk_alloc H2.out.1 (.cells #[] 5)
  have hbz := blk_alloc H2.out.2.1 (.cells #[] 5)
  have hb := H2.out.2.2.1.alloc H2.out.2.2.1.size (.cells #[] 5)
  have hg := H2.out.2.2.2.2
  have hOe := Byts.empty W2
  have hs3 : (W2.alloc (.cells #[] 5)).heap.size = W2.heap.size + 1 := by simp
  generalize W2.alloc (.cells #[] 5) = W3 at *
  clear x0 x1 x2 x3 z0 z1 z2 z3 f0 f1 f2 f3
  obtain ⟨b, off, hRX, hnX, hcX⟩ := HH.out.2.2
  refine wpList_append_brow rfl (.tmp 37) (.tmp 38) rfl W2.heap.size _ [] rfl hOe X.1 b off X.2.2.length X.2.1 X.2.2 rfl (hRX.below hb (Nat.le_refl _)) hnX (by have := HL.out; simp; omega) (by omega) ?_
  intro v4 W4 hO4 hB4 hgx
  clear hgx hOe hRX hnX hcX
  rw [List.nil_append] at hO4
  obtain ⟨ya, yb, yc, rfl, -, hyc, -⟩ := hO4.row
  have H4 := Lib.hid (show _ ∧ _ ∧ _ from ⟨hO4, hB4, hyc⟩)
  have hx4 := blk_below hbx hB4 (by omega)
  have hz4 := blk_below hbz hB4 (by omega)
  have hb4 := hb.trans (hB4.mono H2.out.2.2.1.size)
  have hs4 := hB4.size
  have HX4 := Lib.hid (show _ ∧ _ ∧ _ from ⟨hx4, hz4, hb4⟩)
  clear hO4 hB4 hyc hbx hbz hb hx4 hz4 hb4
  go_wp2_with fail
  go_loopw [8] (fun v wr => ∃ (k : Nat) (a : Option Addr) (c : Nat), X.2.2.length + k ≤ 128 ∧ v = .slice a (X.2.2.length + k) c ∧ Hid (Byts wr W2.heap.size v (X.2.2 ++ List.replicate k 0) ∧ Below W2.heap.size W4 wr)) (fun v _ => match v with | .slice _ n _ => 128 - n | _ => 0)
  case atStart => exact ⟨0, ya, yc, by have := HL.out; omega, rfl, Lib.hid ⟨by simpa using H4.out.1, Below.refl _ _⟩⟩
  case round =>
    obtain ⟨k, a, c, hk, rfl, HR4⟩ := hrel
    have hx5 := blk_below HX4.out.1 HR4.out.2 (by omega)
    have hz5 := blk_below HX4.out.2.1 HR4.out.2 (by omega)
    have hb5 := HX4.out.2.2.trans (HR4.out.2.mono H2.out.2.2.1.size)
    have hs5 := HR4.out.2.size
    by_cases hk8 : X.2.2.length + k < 128
    · have j1 : ((X.2.2.length + k : Nat) : Int) < 128 := by omega
      have HK := Lib.hid hk8
      clear hk hk8
      go_wp2_with (with_reducible refine held (o := ⟨some 45, _, _, _, _, _⟩) ?_)
      unfold Held
      have e5 : (X.2.2 ++ List.replicate (k + 1) 0).length = X.2.2.length + (k + 1) := by simp
      refine wpList_append_b rfl (.tmp 43) (.tmp 44) rfl W2.heap.size _ _ rfl (HR4.out.1.alloc _) wr.heap.size 0 rfl 5 (0, 0) (blk_new _ _) (by simp; omega) (by simp; omega) ?_
      intro v5 W5 hO5 hB5 hgx
      clear hgx
      rw [pad_snoc] at hO5
      obtain ⟨ya, yb, yc, hv5, -, hyc, -⟩ := hO5.row
      rw [e5] at hv5
      subst hv5
      have HH5 := Lib.hid (And.intro hO5 ((HR4.out.2.alloc (by omega) _).trans hB5))
      have hk' : X.2.2.length + (k + 1) ≤ 128 := by have := HK.out; omega
      clear hO5 hB5 e5 hyc hx5 hz5 hb5
      go_wp2_with fail
      go_roundw
      case rel => exact ⟨k + 1, ya, yc, hk', rfl, HH5⟩
      case measure => have := HK.out; simp; omega
    · obtain ⟨E, hE⟩ : ∃ E, E = X.2.2.length + k := ⟨_, rfl⟩
      obtain rfl : E = 128 := by omega
      rw [← hE] at HR4 ⊢
      have hpd : X.2.2 ++ List.replicate k 0 = padL X.2.2 := by unfold padL; rw [show 128 - X.2.2.length = k by omega]
      rw [hpd] at HR4
      clear hpd hk hk8
      have j1 : ¬ ((128 : Nat) : Int) < 128 := by omega
      have x1 := blk_cell hx5 1
      have hlt5 := blk_lt hx5
      have HE := Lib.hid hE
      have H5 := Lib.hid (show _ ∧ _ ∧ _ ∧ _ from ⟨hx5, hz5, hb5, hs5⟩)
      clear hb5 hs5 hE
      go_wp2_with (with_reducible refine held (o := ⟨some 49, _, _, _, _, _⟩) ?_)
      unfold Held
      have hbl7 := H5.out.2.2.1.alloc (show w.heap.size ≤ wr.heap.size by omega) (.cells #[] 54)
      refine wpList_append_ps rfl (.tmp 46) (.tmp 48) rfl wr.heap.size _ [] rfl (PenO.empty wr) pa pb po pn pc P rfl (HH.out.2.1.below hbl7 (Nat.le_refl _)).hd hpc (by have := HP.out; simp; omega) (by simp) ?_
      intro v6 W6 hO6 hB6 hgx
      clear hgx
      rw [List.nil_append] at hO6
      have hlz5 := blk_lt H5.out.2.1
      have hB6' := ((Below.refl wr.heap.size wr).alloc (Nat.le_refl _) (.cells #[] 54)).trans hB6
      have hx6 := blk_below H5.out.1 hB6' (by omega)
      have hz6 := blk_below H5.out.2.1 hB6' (by omega)
      have hb6 := hbl7.trans (hB6.mono (by omega))
      have hs6 := hB6'.size
      have H6 := Lib.hid (show _ ∧ _ ∧ _ ∧ _ ∧ _ ∧ _ from ⟨hO6, hx6, hz6, hb6, hB6', hs6⟩)
      clear hO6 hB6 hx6 hz6 hb6 hB6' hbl7 x1 hx5 hz5
      go_wp2_with (with_reducible refine held (o := ⟨some 54, _, _, _, _, _⟩) ?_)
      unfold Held
      obtain ⟨Y, hY⟩ : ∃ Y : Sl, Y = (a, c, padL X.2.2) := ⟨_, rfl⟩
      have hsv : slV Y = .slice a 128 c := by rw [hY]; simp [slV, padL_len HL.out]
      have hpl : (padL X.2.2).length = 128 := padL_len HL.out
      have hYr : SlR wr Y := by rw [hY]; exact sl_of_byts HR4.out.1 (by omega)
      refine wpList_append_p rfl (.tmp 49) (.tmp 53) rfl wr.heap.size _ P rfl (H6.out.1.alloc _) W6.heap.size (i, Y) rfl 54 (0, 0) (by rw [hsv]; exact blk_new _ _) (by have := HP.out; have := HH.out.2.1.len; omega) (by simp; omega) ?_
      intro v7 W7 hO7 hB7 hgx
      clear hgx
      have hB7' := (H6.out.2.2.2.2.1.alloc hs6 (.cells #[.int .i64 i, .slice a 128 c] 54)).trans hB7
      have hx7 := blk_below H5.out.1 hB7' (by omega)
      have hz7 := blk_below H5.out.2.1 hB7' (by omega)
      have hb7 := H5.out.2.2.1.trans (hB7'.mono (by omega))
      obtain ⟨qa, qb, qc, rfl, hqc, hPq, -⟩ := pens_snoc hO7 HH.out.2.1.len (fun k hk => (HH.out.2.1.row k hk).below hb7 (Nat.le_refl _)) (hYr.below hB7' (Nat.le_refl _))
      have x1 := blk_cell hx7 1
      have f1 := blk_free hx7 1
      have H7 := Lib.hid (show _ ∧ _ ∧ _ ∧ _ ∧ _ ∧ _ ∧ _ from ⟨hx7, hz7, hb7, hB7', hO7, hqc, hY⟩)
      clear hx7 hz7 hb7 hB7' hO7 hqc hPq hY hYr hsv hB7
      go_upto_region 11 with fail
      have hx9 : (W7.setCell ⟨w.heap.size, 1, none⟩ (.slice qa (pn + 1) qc)).heap[w.heap.size]? = some (.cells #[.slice sa sn sc, .slice qa (pn + 1) qc, .int .i64 lf, .bool false] 25 (0, 0)) := cells_setU H7.out.1
      have hb9 := H7.out.2.2.1.setCell (p := ⟨w.heap.size, 1, none⟩) (Nat.le_refl _) (.slice qa (pn + 1) qc)
      have hk9 : ∀ k, k ≠ w.heap.size → (W7.setCell ⟨w.heap.size, 1, none⟩ (.slice qa (pn + 1) qc)).heap[k]? = W7.heap[k]? := fun k hk => Below.heap_setCell _ _ _ _ hk
      generalize W7.setCell ⟨w.heap.size, 1, none⟩ (.slice qa (pn + 1) qc) = W9 at *
      clear x1 f1
      have hz9 := (hk9 (w.heap.size + 1) (by omega)).trans H7.out.2.1
      have x0 := blk_cell hx9 0
      have x1 := blk_cell hx9 1
      have x2 := blk_cell hx9 2
      have x3 := blk_cell hx9 3
      have z0 := blk_cell hz9 0
      have z1 := blk_cell hz9 1
      have z2 := blk_cell hz9 2
      have z3 := blk_cell hz9 3
      have f0 := blk_free hz9 0
      have f1 := blk_free hz9 1
      have f2 := blk_free hz9 2
      have f3 := blk_free hz9 3
      have H9 := Lib.hid (show _ ∧ _ ∧ _ from ⟨hz9, hb9, hk9⟩)
      clear hz9 hx9 hb9 hk9
      go_wp2
      have hbF := cell4_below (u0 := .slice sa sn sc) (u1 := .slice qa (pn + 1) qc) (u2 := .int .i64 lf) (u3 := .bool false) (show w.heap.size ≤ w.heap.size + 1 by omega) H9.out.2.1
      have hkF : ∀ k, w.heap.size + 1 < k → ((((W9.setCell ⟨w.heap.size + 1, 0, none⟩ (.slice sa sn sc)).setCell ⟨w.heap.size + 1, 1, none⟩ (.slice qa (pn + 1) qc)).setCell ⟨w.heap.size + 1, 2, none⟩ (.int .i64 lf)).setCell ⟨w.heap.size + 1, 3, none⟩ (.bool false)).heap[k]? = W7.heap[k]? := fun k hk => (cell4_keep (by omega)).trans (H9.out.2.2 k (by omega))
      refine bodyPost_ret (v := .tuple #[.agg #[.slice sa sn sc, .slice qa (pn + 1) qc, .int .i64 lf, .bool false], .int .i64 0]) ?_ rfl ⟨.inr (.inr (.inr ⟨HR.out, HC.out.1, HC.out.2, HL.out, HP.out, ?_⟩)), hbF⟩
      · exact results_dk_tmp Try.results20 _ _ (w.heap.size + 1) 25 #[.slice sa sn sc, .slice qa (pn + 1) qc, .int .i64 lf, .bool false] (0, 0) rfl (cell4_set H9.out.1) (by kernel_rfl) _ rfl
      · have hOF := H7.out.2.2.2.2.1.keep (fun k hk => hkF k (by omega))
        have hYF := slg_of_byts (HR4.out.1.keep fun k h1 h2 => (hkF k (by omega)).trans (H7.out.2.2.2.1.block k h2)) (by omega)
        rw [← H7.out.2.2.2.2.2.2] at hYF
        obtain ⟨qa', qb', qc', he, hqc', hPq', hqB⟩ := pens_snoc hOF HH.out.2.1.len (fun k hk => (HH.out.2.1.row k hk).below hbF (Nat.le_refl _)) hYF.r
        cases he
        exact ⟨qa, qb', qc, Y, by rw [H7.out.2.2.2.2.2.2], H7.out.2.2.2.2.2.1, by omega, hYF.mono (by omega), hPq', rfl⟩
end Go.Proofs.Ytbimmahlcceadaa
