/- Sync (layer 4). -/
import Derived.Test.YtbimmahlcceadaaDskTorn
import Derived.Test.YtbimmahlcceadaaDskRWrite
namespace Go.Proofs.Ytbimmahlcceadaa
open Go.ChangeShapes Go.WideShapes Go.ChangeAt Go.RowKit
theorem byts_blk {w : World} {B n : Nat} {v : Value} {l : List Int} (h : Byts w B v l) (hl : l.length = n) (hn : 0 < n) : ∃ g cap, v = .slice (some ⟨g, 0, none⟩) n cap ∧ B ≤ g ∧ n ≤ cap ∧ g < w.heap.size := by
  subst hl
  rcases h.2 with ⟨_, h0⟩ | ⟨g, cap, cur, h1, h2, h3, h4, h5, h6, h7⟩
  · omega
  · exact ⟨g, cap, h1, h2, h4, blk_lt h3⟩
theorem wr_ok {S : List Sl} {P : List Wr} {lf : Int} {st : Bool} (h : Valid ⟨S, P, lf, st⟩) {k : Nat} (hk : k < P.length) : 0 ≤ (nW P k).1 ∧ (nW P k).1 < (S.length : Int) := ⟨(h.2.2 k hk).1, (h.2.2 k hk).2.1⟩
set_option maxRecDepth 100000 in
set_option maxHeartbeats 4000000 in
theorem sync_any (S : List Sl) (P : List Wr) (lf : Int) (st : Bool) (sa : Option Addr) (sb so sn sc : Nat) (pa : Option Addr) (pb po pn pc : Nat) (w : World) (hS : Secs w sa sb so sn S) (hP : Pens w pa pb po pn P) (hsn : sn ≤ 9223372036854775807) (hpn : pn ≤ 9223372036854775807) (hpc : pn ≤ pc) (hsc : sa = none → sc = 0) :
    Calls Try.prog 23 #[.agg #[.slice sa sn sc, .slice pa pn pc, .int .i64 lf, .bool st]] w fun e w' => SyncR (runB ⟨S, P, lf, st⟩) S P lf sn pn w.heap.size w' e ∧ Below w.heap.size w w' := by
  have HH := Lib.hid (show _ ∧ _ from ⟨hS, hP⟩)
  clear hS hP
  go_enter Try.func23, Try.ntmps23
  go_upto_region 1 with fail
  have hbx := blk_alloc (blk_new w (.cells #[.slice sa sn sc, .slice pa pn pc, .int .i64 lf, .bool st] 25)) (.cells #[.slice none 0 0, .slice none 0 0, .int .i64 0, .bool false] 25)
  have hbz := blkZ (W := w.alloc (.cells #[.slice sa sn sc, .slice pa pn pc, .int .i64 lf, .bool st] 25)) (o := .cells #[.slice none 0 0, .slice none 0 0, .int .i64 0, .bool false] 25) (k := w.heap.size + 1) (by simp)
  have hb0 : Below w.heap.size w ((w.alloc (.cells #[.slice sa sn sc, .slice pa pn pc, .int .i64 lf, .bool st] 25)).alloc (.cells #[.slice none 0 0, .slice none 0 0, .int .i64 0, .bool false] 25)) := ((Below.refl _ _).alloc (Nat.le_refl _) _).alloc (by simp) _
  have hlt := blk_lt hbx
  have hlz := blk_lt hbz
  generalize (w.alloc (.cells #[.slice sa sn sc, .slice pa pn pc, .int .i64 lf, .bool st] 25)).alloc (.cells #[.slice none 0 0, .slice none 0 0, .int .i64 0, .bool false] 25) = W1 at *
  have x0 := blk_cell hbx 0
  have x1 := blk_cell hbx 1
  have x2 := blk_cell hbx 2
  have x3 := blk_cell hbx 3
  have H1 := Lib.hid (show _ ∧ _ ∧ _ ∧ _ ∧ _ from ⟨hbx, hbz, hb0, hlt, hlz⟩)
  clear hbx hbz hb0 hlt hlz
  go_wp2_with fail
  refine (runs_any S P lf st sa sb so sn sc pa pb po pn pc W1 (HH.out.1.below H1.out.2.2.1 (Nat.le_refl _)) (HH.out.2.below H1.out.2.2.1 (Nat.le_refl _)) hsn hpn).mono ?_
  rintro e W2 ⟨rfl, hb2⟩
  have hbx := blk_below H1.out.1 hb2 H1.out.2.2.2.1
  have hbz := blk_below H1.out.2.1 hb2 H1.out.2.2.2.2
  have hb := H1.out.2.2.1.trans (hb2.mono H1.out.2.2.1.size)
  have hlt := blk_lt hbx
  have hlz := blk_lt hbz
  clear x0 x1 x2 x3 hb2 H1
  have x0 := blk_cell hbx 0
  have x1 := blk_cell hbx 1
  have x2 := blk_cell hbx 2
  have x3 := blk_cell hbx 3
  have z0 := blk_cell hbz 0
  have z1 := blk_cell hbz 1
  have z2 := blk_cell hbz 2
  have z3 := blk_cell hbz 3
  have f0 := blk_free hbz 0
  have f1 := blk_free hbz 1
  have f2 := blk_free hbz 2
  have f3 := blk_free hbz 3
  have H2 := Lib.hid (show _ ∧ _ ∧ _ ∧ _ ∧ _ from ⟨hbx, hbz, hb, hlt, hlz⟩)
  clear hbx hbz hb hlt hlz
  by_cases hr : runB ⟨S, P, lf, st⟩ = true
  case neg =>
    have HR := Lib.hid (show runB ⟨S, P, lf, st⟩ = false by simpa using hr)
    rw [HR.out]
    clear hr
    go_wp2
    refine bodyPost_ret (v := .tuple #[.agg #[.slice none 0 0, .slice none 0 0, .int .i64 0, .bool false], .int .i64 40]) ?_ rfl ⟨.inl ⟨HR.out, rfl⟩, cell4_below (show w.heap.size ≤ w.heap.size + 1 by omega) H2.out.2.2.1⟩
    exact results_dk_tmp Try.results23 _ _ (w.heap.size + 1) 25 #[.slice none 0 0, .slice none 0 0, .int .i64 0, .bool false] (0, 0) rfl (cell4_set H2.out.2.1) (by kernel_rfl) _ rfl
  obtain rfl := runB_stp hr
  have HV := Lib.hid (runB_valid hr)
  have HR := Lib.hid hr
  rw [hr]
  clear hr
  go_upto_region 4 with fail
  have hs1 : 0 < sn := by have := HV.out.1.1; have := HH.out.1.len; dsimp only at *; omega
  have hs2 : sn ≤ 4096 := by have := HV.out.1.2.1; have := HH.out.1.len; dsimp only at *; omega
  have hl1 : -1 ≤ lf := HV.out.1.2.2.2.1
  have hl2 : lf ≤ 65536 := HV.out.1.2.2.2.2
  clear x0 x1 x2 x3 z0 z1 z2 z3 f0 f1 f2 f3
  refine wp_region_from 0 2 (fun w' => w'.heap[w.heap.size]? = some (.cells #[.slice sa sn sc, .slice pa pn pc, .int .i64 lf, .bool false] 25 (0, 0))) (by kernel_rfl) (by kernel_rfl) (by decide) (by kernel_rfl) H2.out.1 ?_
  simp only [List.drop_zero, List.take_succ_cons, List.take_zero]
  refine wpHeld_cons (.pointer (some ⟨w.heap.size, 0, none⟩)) (by kernel_rfl) ?_ ?_
  · intro w' s
    try go_simp
  refine wpHeld_cons (.slice sa sn sc) (by kernel_rfl) ?_ ?_
  · intro w' s
    have y0 := blk_cell s 0
    simp at y0
    try go_simp
  refine wpHeld_nil ?_
  go_simp
  refine wpAnyH_from (fuel := 3) 3 2 (fun _ _ _ _ _ h => h) (by kernel_rfl) (by decide) (by kernel_rfl) H2.out.1 ?_
  simp only [List.drop_succ_cons, List.drop_zero, List.take_succ_cons, List.take_zero]
  refine wpHeld_cons (.pointer (some ⟨w.heap.size, 2, none⟩)) (by kernel_rfl) ?_ ?_
  · intro w' s
    try go_simp
  refine wpHeld_cons (.int .i64 lf) (by kernel_rfl) ?_ ?_
  · intro w' s
    have y0 := blk_cell s 2
    simp at y0
    try go_simp
  refine wpHeld_nil ?_
  go_simp
  refine wpAnyH_one (i := 2) (by kernel_rfl) rfl (by kernel_rfl) (fun K' hK' => ?_)
  obtain ⟨W2', hW2⟩ : ∃ W2', W2' = W2.drew := ⟨_, rfl⟩
  have hbx := blk_drew H2.out.1
  have hbz := blk_drew H2.out.2.1
  have hb := H2.out.2.2.1.drew
  have hlt : w.heap.size < W2.drew.heap.size := H2.out.2.2.2.1
  have hlz : w.heap.size + 1 < W2.drew.heap.size := H2.out.2.2.2.2
  rw [← hW2] at hbx hbz hb hlt hlz ⊢
  have hScs := HH.out.1.below hb (Nat.le_refl _)
  refine wp_append_hrow (.const (.slice none 0 0)) (.tmp 15) rfl W2'.heap.size _ [] rfl (Hds.nil _ _) sa sb so sn sc S rfl ⟨hScs.len, hScs.adr, hScs.old, hScs.cel⟩ hsc (by simp; omega) (Nat.le_refl _) ?_
  intro v3 W3 hO3 hB3 hgx
  clear hgx hScs
  rw [List.nil_append] at hO3
  obtain ⟨g, cap, rfl, hg, hcap, hd3⟩ := hdb_of hO3 HH.out.1.len hs1
  have hbx3 := blk_below hbx hB3 hlt
  have hbz3 := blk_below hbz hB3 hlz
  have hb3 := hb.trans (hB3.mono hb.size)
  have hgz : g ≠ w.heap.size + 1 := by omega
  have hgx : g ≠ w.heap.size := by omega
  have hwg : w.heap.size ≤ g := by omega
  clear hO3 hB3 hbx hbz hb hlt hlz hW2 hg
  have H3 := Lib.hid (show _ ∧ _ ∧ _ ∧ _ from ⟨hbx3, hbz3, hb3, hd3⟩)
  refine hK' _ _ H3.out.1 ?_
  clear hK' K' H2 hbx3 hbz3 hb3 hd3
  go_simp
  refine wpAnyH_one (i := 5) (by kernel_rfl) rfl (by kernel_rfl) (fun K' hK' => ?_)
  go_simp
  refine hK' _ _ H3.out.1 ?_
  clear hK' K'
  go_simp
  refine wpAnyH_one (i := 6) (by kernel_rfl) rfl (by kernel_rfl) (fun K' hK' => ?_)
  have z0 := blk_cell H3.out.2.1 0
  have z1 := blk_cell H3.out.2.1 1
  have z2 := blk_cell H3.out.2.1 2
  have z3 := blk_cell H3.out.2.1 3
  have f0 := blk_free H3.out.2.1 0
  have f1 := blk_free H3.out.2.1 1
  have f2 := blk_free H3.out.2.1 2
  have f3 := blk_free H3.out.2.1 3
  go_simp
  have hz4 := cell4_set (u0 := .slice (some ⟨g, 0, none⟩) sn cap) (u1 := .slice none 0 0) (u2 := .int .i64 lf) (u3 := .bool false) H3.out.2.1
  have hx4 := cell4_other (u0 := .slice (some ⟨g, 0, none⟩) sn cap) (u1 := .slice none 0 0) (u2 := .int .i64 lf) (u3 := .bool false) H3.out.1 (show w.heap.size ≠ w.heap.size + 1 by omega)
  have hd4 := H3.out.2.2.2.other (cell4_keep (u0 := .slice (some ⟨g, 0, none⟩) sn cap) (u1 := .slice none 0 0) (u2 := .int .i64 lf) (u3 := .bool false) hgz)
  have hb4 := cell4_below (u0 := .slice (some ⟨g, 0, none⟩) sn cap) (u1 := .slice none 0 0) (u2 := .int .i64 lf) (u3 := .bool false) (show w.heap.size ≤ w.heap.size + 1 by omega) H3.out.2.2.1
  generalize (((W3.setCell ⟨w.heap.size + 1, 0, none⟩ (.slice (some ⟨g, 0, none⟩) sn cap)).setCell ⟨w.heap.size + 1, 1, none⟩ (.slice none 0 0)).setCell ⟨w.heap.size + 1, 2, none⟩ (.int .i64 lf)).setCell ⟨w.heap.size + 1, 3, none⟩ (.bool false) = W4 at *
  clear z0 z1 z2 z3 f0 f1 f2 f3 H3
  have hlt := blk_lt hx4
  have hlz := blk_lt hz4
  refine hK' _ _ hx4 ?_
  clear hK' K'
  refine wpAnyH_done (by kernel_rfl) ?_ _
  refine NoPanic.normal ?_
  have x0 := blk_cell hx4 0
  have x1 := blk_cell hx4 1
  have x2 := blk_cell hx4 2
  have x3 := blk_cell hx4 3
  have z0 := blk_cell hz4 0
  have z1 := blk_cell hz4 1
  have z2 := blk_cell hz4 2
  have z3 := blk_cell hz4 3
  have f0 := blk_free hz4 0
  have f1 := blk_free hz4 1
  have f2 := blk_free hz4 2
  have f3 := blk_free hz4 3
  have H4 := Lib.hid (show _ ∧ _ ∧ _ ∧ _ from ⟨hx4, hz4, hd4, hb4⟩)
  clear hx4 hz4 hd4 hb4
  go_simp
  by_cases cA : lf = -1
  · subst cA
    go_wp2_with fail
    refine (perform_any S P (-1) false g sn cap none 0 0 pa pb po pn pc W4 H4.out.2.2.1 (HH.out.2.below H4.out.2.2.2 (Nat.le_refl _)) (fun h => by have := HH.out.2.old (by omega); omega) (fun k hk => by have := wr_ok HV.out (k := k) (by have := HH.out.2.len; omega); have := HH.out.1.len; omega) (by omega)).mono ?_
    rintro e W5 ⟨rfl, hd5, hu5⟩
    have hx5 := (hu5.far _ hlt (Ne.symm hgx)).trans H4.out.1
    have hz5 := (hu5.far _ hlz (Ne.symm hgz)).trans H4.out.2.1
    have hb5 := H4.out.2.2.2.trans (hu5.low _ hwg H4.out.2.2.2.size)
    clear x0 x1 x2 x3 z0 z1 z2 z3 f0 f1 f2 f3 hu5
    replace hlt := blk_lt hx5
    replace hlz := blk_lt hz5
    have x0 := blk_cell hx5 0
    have x1 := blk_cell hx5 1
    have x2 := blk_cell hx5 2
    have x3 := blk_cell hx5 3
    have z0 := blk_cell hz5 0
    have z1 := blk_cell hz5 1
    have z2 := blk_cell hz5 2
    have z3 := blk_cell hz5 3
    have f0 := blk_free hz5 0
    have f1 := blk_free hz5 1
    have f2 := blk_free hz5 2
    have f3 := blk_free hz5 3
    have H5 := Lib.hid (show _ ∧ _ ∧ _ ∧ _ from ⟨hx5, hz5, hd5, hb5⟩)
    clear hx5 hz5 hd5 hb5 H4
    go_wp2
    have hbF := cell4_below (u0 := .slice (some ⟨g, 0, none⟩) sn cap) (u1 := .slice none 0 0) (u2 := .int .i64 (-1)) (u3 := .bool false) (show w.heap.size ≤ w.heap.size + 1 by omega) H5.out.2.2.2
    have hdF := H5.out.2.2.1.other (cell4_keep (u0 := .slice (some ⟨g, 0, none⟩) sn cap) (u1 := .slice none 0 0) (u2 := .int .i64 (-1)) (u3 := .bool false) hgz)
    refine bodyPost_ret (v := .tuple #[.agg #[.slice (some ⟨g, 0, none⟩) sn cap, .slice none 0 0, .int .i64 (-1), .bool false], .int .i64 0]) ?_ rfl ⟨.inr (.inl ⟨HR.out, .inl rfl, g, cap, hcap, hwg, secs_of_hdb hdF ?_, by simp⟩), hbF⟩
    · exact results_dk_tmp Try.results23 _ _ (w.heap.size + 1) 25 #[.slice (some ⟨g, 0, none⟩) sn cap, .slice none 0 0, .int .i64 (-1), .bool false] (0, 0) rfl (cell4_set H5.out.2.1) (by kernel_rfl) _ rfl
    · exact fun i hi => perfK_row (SlR _) (fun i hi => (HH.out.1.row i (by have := HH.out.1.len; omega)).below hbF (Nat.le_refl _)) pn (fun j hj => (HH.out.2.row j hj).below hbF (Nat.le_refl _)) i (by have := HH.out.1.len; omega)
  by_cases cB : (pn : Int) ≤ lf
  · have e1 : (lf == -1) = false := by simp; omega
    have HC := Lib.hid (And.intro cA cB)
    have hl0 : 0 ≤ lf := by omega
    clear cA hl1
    go_wp2_with fail
    refine (perform_any S P lf false g sn cap none 0 0 pa pb po pn pc W4 H4.out.2.2.1 (HH.out.2.below H4.out.2.2.2 (Nat.le_refl _)) (fun h => by have := HH.out.2.old (by omega); omega) (fun k hk => by have := wr_ok HV.out (k := k) (by have := HH.out.2.len; omega); have := HH.out.1.len; omega) (by omega)).mono ?_
    rintro e W5 ⟨rfl, hd5, hu5⟩
    have hx5 := (hu5.far _ hlt (Ne.symm hgx)).trans H4.out.1
    have hz5 := (hu5.far _ hlz (Ne.symm hgz)).trans H4.out.2.1
    have hb5 := H4.out.2.2.2.trans (hu5.low _ hwg H4.out.2.2.2.size)
    clear x0 x1 x2 x3 z0 z1 z2 z3 f0 f1 f2 f3 hu5
    replace hlt := blk_lt hx5
    replace hlz := blk_lt hz5
    have x0 := blk_cell hx5 0
    have x1 := blk_cell hx5 1
    have x2 := blk_cell hx5 2
    have x3 := blk_cell hx5 3
    have z0 := blk_cell hz5 0
    have z1 := blk_cell hz5 1
    have z2 := blk_cell hz5 2
    have z3 := blk_cell hz5 3
    have f0 := blk_free hz5 0
    have f1 := blk_free hz5 1
    have f2 := blk_free hz5 2
    have f3 := blk_free hz5 3
    have H5 := Lib.hid (show _ ∧ _ ∧ _ ∧ _ from ⟨hx5, hz5, hd5, hb5⟩)
    clear hx5 hz5 hd5 hb5 H4
    have e2 : IntKind.i64.wrap (lf - (pn : Int)) = lf - (pn : Int) := wrap_id (by omega)
    have e3 : (lf != -1) = true := by simp; exact HC.out.1
    go_upto_region 9 with fail
    have hz6 : (W5.setCell ⟨w.heap.size + 1, 2, none⟩ (.int .i64 (lf - (pn : Int)))).heap[w.heap.size + 1]? = some (.cells #[.slice (some ⟨g, 0, none⟩) sn cap, .slice none 0 0, .int .i64 (lf - (pn : Int)), .bool false] 25 (0, 0)) := cells_setU H5.out.2.1
    have hx6 := (Below.heap_setCell W5 ⟨w.heap.size + 1, 2, none⟩ (.int .i64 (lf - (pn : Int))) w.heap.size (show w.heap.size ≠ w.heap.size + 1 by omega)).trans H5.out.1
    have hd6 := H5.out.2.2.1.other (Below.heap_setCell W5 ⟨w.heap.size + 1, 2, none⟩ (.int .i64 (lf - (pn : Int))) g hgz)
    have hb6 := H5.out.2.2.2.setCell (p := ⟨w.heap.size + 1, 2, none⟩) (show w.heap.size ≤ w.heap.size + 1 by omega) (.int .i64 (lf - (pn : Int)))
    generalize W5.setCell ⟨w.heap.size + 1, 2, none⟩ (.int .i64 (lf - (pn : Int))) = W6 at *
    clear x0 x1 x2 x3 z0 z1 z2 z3 f0 f1 f2 f3
    have x0 := blk_cell hx6 0
    have x1 := blk_cell hx6 1
    have x2 := blk_cell hx6 2
    have x3 := blk_cell hx6 3
    have z0 := blk_cell hz6 0
    have z1 := blk_cell hz6 1
    have z2 := blk_cell hz6 2
    have z3 := blk_cell hz6 3
    have f0 := blk_free hz6 0
    have f1 := blk_free hz6 1
    have f2 := blk_free hz6 2
    have f3 := blk_free hz6 3
    have H6 := Lib.hid (show _ ∧ _ ∧ _ ∧ _ from ⟨hx6, hz6, hd6, hb6⟩)
    clear hx6 hz6 hd6 hb6
    go_wp2
    have hbF := cell4_below (u0 := .slice (some ⟨g, 0, none⟩) sn cap) (u1 := .slice none 0 0) (u2 := .int .i64 (lf - (pn : Int))) (u3 := .bool false) (show w.heap.size ≤ w.heap.size + 1 by omega) H6.out.2.2.2
    have hdF := H6.out.2.2.1.other (cell4_keep (u0 := .slice (some ⟨g, 0, none⟩) sn cap) (u1 := .slice none 0 0) (u2 := .int .i64 (lf - (pn : Int))) (u3 := .bool false) hgz)
    refine bodyPost_ret (v := .tuple #[.agg #[.slice (some ⟨g, 0, none⟩) sn cap, .slice none 0 0, .int .i64 (lf - (pn : Int)), .bool false], .int .i64 0]) ?_ rfl ⟨.inr (.inl ⟨HR.out, .inr HC.out.2, g, cap, hcap, hwg, secs_of_hdb hdF ?_, by rw [if_neg HC.out.1]⟩), hbF⟩
    · exact results_dk_tmp Try.results23 _ _ (w.heap.size + 1) 25 #[.slice (some ⟨g, 0, none⟩) sn cap, .slice none 0 0, .int .i64 (lf - (pn : Int)), .bool false] (0, 0) rfl (cell4_set H6.out.2.1) (by kernel_rfl) _ rfl
    · exact fun i hi => perfK_row (SlR _) (fun i hi => (HH.out.1.row i (by have := HH.out.1.len; omega)).below hbF (Nat.le_refl _)) pn (fun j hj => (HH.out.2.row j hj).below hbF (Nat.le_refl _)) i (by have := HH.out.1.len; omega)
  obtain ⟨m, rfl⟩ := Int.eq_ofNat_of_zero_le (a := lf) (by omega)
  have hm : m < pn := by omega
  have e1 : ((m : Int) == -1) = false := by simp
  have e3 : (m : Int) < (pn : Int) := by omega
  have e4 : (m : Int) ≤ (pc : Int) := by omega
  clear cA cB hl1
  have HC := Lib.hid hm
  go_upto_region 10 with fail
  clear x0 x1 x2 x3 z0 z1 z2 z3 f0 f1 f2 f3
  refine wp_region_from 0 8 (fun w' => w'.heap[w.heap.size]? = some (.cells #[.slice sa sn sc, .slice pa pn pc, .int .i64 (m : Int), .bool false] 25 (0, 0)) ∧ w'.heap[w.heap.size + 1]? = some (.cells #[.slice (some ⟨g, 0, none⟩) sn cap, .slice none 0 0, .int .i64 (m : Int), .bool false] 25 (0, 0))) (by kernel_rfl) (by kernel_rfl) (by decide) (by kernel_rfl) ⟨H4.out.1, H4.out.2.1⟩ ?_
  simp only [List.drop_zero, List.take_succ_cons, List.take_zero]
  refine wpHeld_cons (.agg #[.slice (some ⟨g, 0, none⟩) sn cap, .slice none 0 0, .int .i64 (m : Int), .bool false]) (by kernel_rfl) ?_ ?_
  · rintro w' ⟨s1, s2⟩
    have y0 := blk_cell s2 0
    simp at y0
    have y1 := blk_cell s2 1
    simp at y1
    have y2 := blk_cell s2 2
    simp at y2
    have y3 := blk_cell s2 3
    simp at y3
    try go_simp
  refine wpHeld_cons (.pointer (some ⟨w.heap.size, 1, none⟩)) (by kernel_rfl) ?_ ?_
  · rintro w' ⟨s1, s2⟩
    try go_simp
  refine wpHeld_cons (.slice pa pn pc) (by kernel_rfl) ?_ ?_
  · rintro w' ⟨s1, s2⟩
    have y1 := blk_cell s1 1
    simp at y1
    try go_simp
  refine wpHeld_cons (.pointer (some ⟨w.heap.size, 2, none⟩)) (by kernel_rfl) ?_ ?_
  · rintro w' ⟨s1, s2⟩
    try go_simp
  refine wpHeld_cons (.int .i64 (m : Int)) (by kernel_rfl) ?_ ?_
  · rintro w' ⟨s1, s2⟩
    have y2 := blk_cell s1 2
    simp at y2
    try go_simp
  refine wpHeld_cons (.pointer (some ⟨w.heap.size, 2, none⟩)) (by kernel_rfl) ?_ ?_
  · rintro w' ⟨s1, s2⟩
    try go_simp
  refine wpHeld_cons (.int .i64 (m : Int)) (by kernel_rfl) ?_ ?_
  · rintro w' ⟨s1, s2⟩
    have y2 := blk_cell s1 2
    simp at y2
    try go_simp
  refine wpHeld_cons (.slice pa m m) (by kernel_rfl) ?_ ?_
  · rintro w' ⟨s1, s2⟩
    try go_simp
  refine wpHeld_nil ?_
  go_simp
  refine wpAnyH_one (i := 8) (by kernel_rfl) rfl (by kernel_rfl) (fun K' hK' => ?_)
  go_simp
  obtain ⟨W4', hW4⟩ : ∃ W4', W4' = W4.drew := ⟨_, rfl⟩
  have H4' := Lib.hid (show _ ∧ _ ∧ _ ∧ _ from ⟨blk_drew H4.out.1, blk_drew H4.out.2.1, H4.out.2.2.1.other (w' := W4.drew) rfl, H4.out.2.2.2.drew⟩)
  replace hlt : w.heap.size < W4.drew.heap.size := hlt
  replace hlz : w.heap.size + 1 < W4.drew.heap.size := hlz
  rw [← hW4] at H4' hlt hlz ⊢
  clear hW4 H4
  refine (perform_any S (P.take m) (m : Int) false g sn cap none 0 0 pa pb po m m W4' H4'.out.2.2.1 ((HH.out.2.below H4'.out.2.2.2 (Nat.le_refl _)).pre (by have := HC.out; omega)) (fun h => by have := HH.out.2.old (by have := HC.out; omega); omega) (fun k hk => by have := HC.out; rw [nW_take hk]; have := wr_ok HV.out (k := k) (by have := HH.out.2.len; omega); have := HH.out.1.len; omega) (by have := HC.out; omega)).mono ?_
  rintro e W5 ⟨rfl, hd5, hu5⟩
  rw [perfK_take _ _ _ _ (Nat.le_refl _)] at hd5
  have hx5 := (hu5.far _ hlt (Ne.symm hgx)).trans H4'.out.1
  have hz5 := (hu5.far _ hlz (Ne.symm hgz)).trans H4'.out.2.1
  have hb5 := H4'.out.2.2.2.trans (hu5.low _ hwg H4'.out.2.2.2.size)
  clear hu5
  replace hlt := blk_lt hx5
  replace hlz := blk_lt hz5
  have H5 := Lib.hid (show _ ∧ _ ∧ _ ∧ _ from ⟨hx5, hz5, hd5, hb5⟩)
  clear hx5 hz5 hd5 hb5 H4'
  go_simp
  refine hK' _ _ ⟨H5.out.1, H5.out.2.1⟩ ?_
  clear hK' K'
  refine wpAnyH_done (by kernel_rfl) ?_ _
  refine NoPanic.normal ?_
  have x1 := blk_cell H5.out.1 1
  have x2 := blk_cell H5.out.1 2
  obtain rfl := HH.out.2.adr (by have := HC.out; omega)
  have hwr := wr_ok HV.out (k := m) (by have := HH.out.2.len; have := HC.out; omega)
  rw [HH.out.1.len] at hwr
  obtain ⟨t, ht⟩ := Int.eq_ofNat_of_zero_le hwr.1
  have hts : t < sn := by omega
  have a0 := (H5.out.2.2.2.cell (p := ⟨pb, po + m * 2, none⟩) (HH.out.2.old (by have := HC.out; omega))).trans (HH.out.2.at_ m HC.out)
  have a1 := (H5.out.2.2.2.cell (p := ⟨pb, po + m * 2 + 1, none⟩) (HH.out.2.old (by have := HC.out; omega))).trans (HH.out.2.cel m HC.out)
  rw [ht] at a0
  have HT := Lib.hid (show (nW P m).1.toNat = t ∧ (nW P m).2.2.2.length = 128 ∧ t < sn from ⟨by rw [ht]; rfl, (HV.out.2.2 m (by have := HH.out.2.len; have := HC.out; dsimp only; omega)).2.2, hts⟩)
  have hXr := HH.out.2.row m HC.out
  clear hwr ht
  obtain ⟨N, hN⟩ : ∃ N : Sl, N = (nW P m).2 := ⟨_, rfl⟩
  rw [← hN] at a1 hXr
  unfold slV at a1
  have HN := Lib.hid (And.intro hN hXr)
  clear hN hXr
  have j1 : (m : Int) < (pn : Int) := by have := HC.out; omega
  have j2 : ¬ (m : Int) < 0 := by omega
  go_upto_region 12 with fail
  have hz6 := blk_alloc H5.out.2.1 (.cells #[.int .i64 (t : Int), .slice N.1 N.2.2.length N.2.1] 54)
  have hd6 := H5.out.2.2.1.alloc (.cells #[.int .i64 (t : Int), .slice N.1 N.2.2.length N.2.1] 54)
  have ht6 := blk_new W5 (.cells #[.int .i64 (t : Int), .slice N.1 N.2.2.length N.2.1] 54)
  have hb6 := H5.out.2.2.2.alloc H5.out.2.2.2.size (.cells #[.int .i64 (t : Int), .slice N.1 N.2.2.length N.2.1] 54)
  have hg5 := H5.out.2.2.1.lt
  have hs6 : (W5.alloc (.cells #[.int .i64 (t : Int), .slice N.1 N.2.2.length N.2.1] 54)).heap.size = W5.heap.size + 1 := by simp
  generalize W5.alloc (.cells #[.int .i64 (t : Int), .slice N.1 N.2.2.length N.2.1] 54) = W6 at *
  clear x1 x2 a0 a1
  obtain ⟨M, hM⟩ : ∃ M : Sl, M = nS (perfK S P m) t := ⟨_, rfl⟩
  have hMQ : ∀ (Q : Sl → Prop), (∀ i, i < sn → Q (nS S i)) → (∀ j, j < m → Q (nW P j).2) → Q M := fun Q h1 h2 => by
    rw [hM]
    exact perfK_row Q (fun i hi => h1 i (by rw [← HH.out.1.len]; exact hi)) m h2 t (by rw [HH.out.1.len]; exact HT.out.2.2)
  have hMl : M.2.2.length = 128 := hMQ (fun s => s.2.2.length = 128) (fun i hi => HV.out.2.1 i (by rw [HH.out.1.len]; exact hi)) (fun j hj => (HV.out.2.2 j (by have := HH.out.2.len; have := HC.out; dsimp only; omega)).2.2)
  have hMr : SlR W6 M := hMQ (SlR W6) (fun i hi => (HH.out.1.row i hi).below hb6 (Nat.le_refl _)) (fun j hj => (HH.out.2.row j (by have := HC.out; omega)).below hb6 (Nat.le_refl _))
  have z0 := blk_cell hz6 0
  have t0 := blk_cell ht6 0
  have c0 := hd6.cell HT.out.2.2
  rw [← hM] at c0
  unfold slV at c0
  have j3 : (t : Int) < (sn : Int) := by omega
  have j4 : ¬ (t : Int) < 0 := by omega
  have H6 := Lib.hid (show _ ∧ _ ∧ _ ∧ _ ∧ _ from ⟨hz6, hd6, ht6, hb6, hM⟩)
  have HM := Lib.hid hMl
  clear hz6 hd6 ht6 hb6 hM hMQ hMl H5
  go_wp2_with (with_reducible refine held (o := ⟨some 63, _, _, _, _, _⟩) ?_)
  unfold Held
  obtain ⟨mb, mo, hMR, hMn, hMc⟩ := hMr
  refine wpList_append_brow rfl (.const (.slice none 0 0)) (.tmp 62) rfl W6.heap.size _ [] rfl (Byts.nil _ _) M.1 mb mo M.2.2.length M.2.1 M.2.2 rfl hMR hMn (by rw [HM.out]; simp) (Nat.le_refl _) ?_
  intro v7 W7 hO7 hB7 hgx7
  clear hgx7 hMR hMn hMc z0 t0 c0
  rw [List.nil_append] at hO7
  obtain ⟨q, qc, rfl, hq, hqc, hql⟩ := byts_blk hO7 HM.out (by omega)
  have hgq : g ≠ q := by have := H6.out.2.1.lt; omega
  have hzq : w.heap.size + 1 ≠ q := by have := blk_lt H6.out.1; omega
  have htq : W5.heap.size ≠ q := by omega
  have hz7 := blk_below H6.out.1 hB7 (blk_lt H6.out.1)
  have hd7 := H6.out.2.1.below hB7 H6.out.2.1.lt
  have ht7 := blk_below H6.out.2.2.1 hB7 (by omega)
  have hb7 := H6.out.2.2.2.1.trans (hB7.mono H6.out.2.2.2.1.size)
  have hb65 := H6.out.2.2.2.1.size
  have hgW := H6.out.2.1.lt
  have hzW := blk_lt H6.out.1
  have H7 := Lib.hid (show _ ∧ _ ∧ _ ∧ _ ∧ _ ∧ _ from ⟨hz7, hd7, ht7, hb7, hO7, H6.out.2.2.2.2⟩)
  clear hz7 hd7 ht7 hb7 hO7 hB7 H6
  go_upto_region 13 with fail
  have j5 : (64 : Int) ≤ (qc : Int) := by omega
  refine wp_region_from 0 4 (fun w' => w'.heap[W5.heap.size]? = some (.cells #[.int .i64 (t : Int), .slice N.1 N.2.2.length N.2.1] 54 (0, 0))) (by kernel_rfl) (by kernel_rfl) (by decide) (by kernel_rfl) H7.out.2.2.1 ?_
  simp only [List.drop_zero, List.take_succ_cons, List.take_zero]
  refine wpHeld_cons (.slice (some ⟨q, 0, none⟩) 128 qc) (by kernel_rfl) ?_ ?_
  · rintro w' s1
    try go_simp
  refine wpHeld_cons (.slice (some ⟨q, 0, none⟩) 64 qc) (by kernel_rfl) ?_ ?_
  · rintro w' s1
    try go_simp
  refine wpHeld_cons (.pointer (some ⟨W5.heap.size, 1, none⟩)) (by kernel_rfl) ?_ ?_
  · rintro w' s1
    try go_simp
  refine wpHeld_cons (.slice N.1 N.2.2.length N.2.1) (by kernel_rfl) ?_ ?_
  · rintro w' s1
    have y1 := blk_cell s1 1
    simp at y1
    try go_simp
  refine wpHeld_nil ?_
  go_simp
  refine wpAnyH_one (i := 4) (by kernel_rfl) rfl (by kernel_rfl) (fun K' hK' => ?_)
  have hbd := H7.out.2.2.2.1.drew
  refine wp_copy_byts (.tmp 65) (.tmp 67) rfl W6.heap.size q 128 qc 64 qc M.2.2 (H7.out.2.2.2.2.1.drew) HM.out rfl (by omega) N (HN.out.2.below hbd (Nat.le_refl _)) rfl (by rw [HN.out.1, HT.out.2.1]; omega) (by omega) ?_
  intro W8 hO8 hB8 hu8
  have hz8 : W8.heap[w.heap.size + 1]? = _ := (hu8.far _ (by have := blk_lt H7.out.1; exact this) hzq).trans H7.out.1
  have hd8 := H7.out.2.1.other (hu8.far _ (by have := H7.out.2.1.lt; exact this) hgq)
  have ht8 : W8.heap[W5.heap.size]? = _ := (hu8.far _ (by have := blk_lt H7.out.2.2.1; exact this) htq).trans H7.out.2.2.1
  have hb8 := hbd.trans (hB8.mono (by omega))
  have H8 := Lib.hid (show _ ∧ _ ∧ _ ∧ _ ∧ _ ∧ _ from ⟨hz8, hd8, ht8, hb8, hO8, H7.out.2.2.2.2.2⟩)
  refine hK' _ _ ht8 ?_
  clear hK' K' H7 hz8 hd8 ht8 hb8 hO8 hB8 hu8 hbd
  refine wpAnyH_done (by kernel_rfl) ?_ _
  refine NoPanic.normal ?_
  have z0 := blk_cell H8.out.1 0
  have t0 := blk_cell H8.out.2.2.1 0
  have c0 := H8.out.2.1.cell HT.out.2.2
  unfold slV at c0
  have k0 := H8.out.2.1.free t
  go_upto_region 15 with fail
  obtain ⟨Y, hY⟩ : ∃ Y : Sl, Y = (some ⟨q, 0, none⟩, qc, tornL N.2.2 M.2.2) := ⟨_, rfl⟩
  have hYl : (tornL N.2.2 M.2.2).length = 128 := by
    have h1 := HM.out
    have h2 : N.2.2.length = 128 := by rw [HN.out.1]; exact HT.out.2.1
    simp [tornL]; omega
  have hsv : slV Y = (.slice (some ⟨q, 0, none⟩) 128 qc) := by rw [hY]; simp [slV, hYl]
  have hd9 : HdB (W8.setCell ⟨g, t, none⟩ (.slice (some ⟨q, 0, none⟩) 128 qc)) g sn ((perfK S P m).set t Y) := by rw [← hsv]; exact H8.out.2.1.set HT.out.2.2
  have hz9 := (Below.heap_setCell W8 ⟨g, t, none⟩ (.slice (some ⟨q, 0, none⟩) 128 qc) (w.heap.size + 1) (Ne.symm hgz)).trans H8.out.1
  have hb9 := H8.out.2.2.2.1.setCell (p := ⟨g, t, none⟩) hwg (.slice (some ⟨q, 0, none⟩) 128 qc)
  have hk9 : ∀ k, k ≠ g → (W8.setCell ⟨g, t, none⟩ (.slice (some ⟨q, 0, none⟩) 128 qc)).heap[k]? = W8.heap[k]? := fun k hk => Below.heap_setCell _ _ _ _ hk
  clear z0 t0 c0 k0
  generalize (W8.setCell ⟨g, t, none⟩ (.slice (some ⟨q, 0, none⟩) 128 qc)) = W9 at *
  have z2 := blk_cell hz9 2
  have z3 := blk_cell hz9 3
  have f2 := blk_free hz9 2
  have f3 := blk_free hz9 3
  have H9 := Lib.hid (show _ ∧ _ ∧ _ ∧ _ ∧ _ from ⟨hz9, hd9, hb9, hk9, hY⟩)
  clear hz9 hd9 hb9 hk9 hY hsv
  go_upto_region 16 with fail
  have hz10 : ((W9.setCell ⟨w.heap.size + 1, 2, none⟩ (.int .i64 0)).setCell ⟨w.heap.size + 1, 3, none⟩ (.bool true)).heap[w.heap.size + 1]? = some (.cells #[.slice (some ⟨g, 0, none⟩) sn cap, .slice none 0 0, .int .i64 0, .bool true] 25 (0, 0)) := cells_setU (cells_setU H9.out.1)
  have hk10 : ∀ k, k ≠ w.heap.size + 1 → ((W9.setCell ⟨w.heap.size + 1, 2, none⟩ (.int .i64 0)).setCell ⟨w.heap.size + 1, 3, none⟩ (.bool true)).heap[k]? = W9.heap[k]? := fun k hk => (Below.heap_setCell _ _ _ _ hk).trans (Below.heap_setCell _ _ _ _ hk)
  have hd10 := H9.out.2.1.other (hk10 g hgz)
  have hb10 := (H9.out.2.2.1.setCell (p := ⟨w.heap.size + 1, 2, none⟩) (show w.heap.size ≤ w.heap.size + 1 by omega) (.int .i64 0)).setCell (p := ⟨w.heap.size + 1, 3, none⟩) (show w.heap.size ≤ w.heap.size + 1 by omega) (.bool true)
  generalize ((W9.setCell ⟨w.heap.size + 1, 2, none⟩ (.int .i64 0)).setCell ⟨w.heap.size + 1, 3, none⟩ (.bool true)) = W10 at *
  clear z2 z3 f2 f3
  have z0 := blk_cell hz10 0
  have z1 := blk_cell hz10 1
  have z2 := blk_cell hz10 2
  have z3 := blk_cell hz10 3
  have f0 := blk_free hz10 0
  have f1 := blk_free hz10 1
  have f2 := blk_free hz10 2
  have f3 := blk_free hz10 3
  have H10 := Lib.hid (show _ ∧ _ ∧ _ ∧ _ from ⟨hz10, hd10, hb10, hk10⟩)
  clear hz10 hd10 hb10 hk10
  go_wp2
  have hbF := cell4_below (u0 := .slice (some ⟨g, 0, none⟩) sn cap) (u1 := .slice none 0 0) (u2 := .int .i64 0) (u3 := .bool true) (show w.heap.size ≤ w.heap.size + 1 by omega) H10.out.2.2.1
  have hdF := H10.out.2.1.other (cell4_keep (u0 := .slice (some ⟨g, 0, none⟩) sn cap) (u1 := .slice none 0 0) (u2 := .int .i64 0) (u3 := .bool true) hgz)
  have hYF := slg_of_byts (H8.out.2.2.2.2.1.keep (fun k h1 h2 => (cell4_keep (u0 := .slice (some ⟨g, 0, none⟩) sn cap) (u1 := .slice none 0 0) (u2 := .int .i64 0) (u3 := .bool true) (show k ≠ w.heap.size + 1 by omega)).trans ((H10.out.2.2.2 k (by omega)).trans (H9.out.2.2.2.1 k (by omega))))) (by rw [show List.take 64 N.2.2 ++ List.drop 64 M.2.2 = tornL N.2.2 M.2.2 from rfl, hYl]; omega)
  rw [show List.take 64 N.2.2 ++ List.drop 64 M.2.2 = tornL N.2.2 M.2.2 from rfl, ← H9.out.2.2.2.2] at hYF
  refine bodyPost_ret (v := .tuple #[.agg #[.slice (some ⟨g, 0, none⟩) sn cap, .slice none 0 0, .int .i64 0, .bool true], .int .i64 40]) ?_ rfl ⟨.inr (.inr ⟨HR.out, by omega, by have := HC.out; omega, g, cap, Y, hcap, hwg, hYF.mono (by omega), ?_, ?_, rfl⟩), hbF⟩
  · exact results_dk_tmp Try.results23 _ _ (w.heap.size + 1) 25 #[.slice (some ⟨g, 0, none⟩) sn cap, .slice none 0 0, .int .i64 0, .bool true] (0, 0) rfl (cell4_set H10.out.1) (by kernel_rfl) _ rfl
  · rw [H9.out.2.2.2.2, Int.toNat_natCast, HT.out.1, ← HN.out.1, ← H8.out.2.2.2.2.2]
  · rw [Int.toNat_natCast, HT.out.1]
    exact secs_of_hdb hdF fun i hi => nS_setD (SlR _) hYF.r (perfK_row (SlR _) (fun i hi => (HH.out.1.row i (by have := HH.out.1.len; omega)).below hbF (Nat.le_refl _)) m (fun j hj => (HH.out.2.row j (by have := HC.out; omega)).below hbF (Nat.le_refl _)) i (by have := HH.out.1.len; omega)) (by rw [perfK_len]; have := HH.out.1.len; omega)
end Go.Proofs.Ytbimmahlcceadaa
