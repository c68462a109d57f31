/- The reference's Sync (layer 4). -/
import Derived.Test.YtbimmahlcceadaaDskSync
namespace Go.Proofs.Ytbimmahlcceadaa
open Go.ChangeShapes Go.WideShapes Go.ChangeAt Go.RowKit
theorem RowB.pre {w : World} {a : Option Addr} {b off n k : Nat} {l : List Int} (h : RowB w a b off n l) (hk : k ≤ n) : RowB w a b off k (l.take k) :=
  ⟨by have := h.len; simp; omega, fun h0 => h.adr (by omega), fun h0 => h.old (by omega), fun i hi => by rw [h.cel i (by omega)]; simp [List.getD_eq_getElem?_getD, hi]⟩
theorem hdb_ne {w : World} {b g n cap B : Nat} {l : List Sl} {cs : Array Value} {fr : Nat × Nat} (hb : w.heap[b]? = some (.cells cs 25 fr)) (h : Hds w B (.slice (some ⟨g, 0, none⟩) n cap) l) : b ≠ g := fun e => by
  rcases h.2 with ⟨hv, _⟩ | ⟨g', cap', cur, h1, h2, h3, _⟩
  · cases hv
  · cases h1
    rw [← e, hb] at h3
    cases h3
theorem Hds.empty' (w : World) : Hds (w.alloc (.cells #[] 35)) w.heap.size (.slice (some ⟨w.heap.size, 0, none⟩) 0 0) [] := Hds.empty w
theorem Hds.drew {w : World} {B : Nat} {v : Value} {l : List Sl} (h : Hds w B v l) : Hds w.drew B v l := h
set_option maxRecDepth 100000 in
set_option maxHeartbeats 40000000 in
theorem rsync_any (S : List Sl) (P : List Wr) (lf : Int) (st : Bool) (sa : Option Addr) (sb so sn sc : Nat) (pa : Option Addr) (pb po pn pc : Nat) (w : World) (hS : Secs w sa sb so sn S) (hP : Pens w pa pb po pn P) (hsn : sn ≤ 9223372036854775807) (hpn : pn ≤ 9223372036854775807) (hpc : pn ≤ pc) (hsc : sa = none → sc = 0) :
    Calls Try.prog 24 #[.agg #[.slice sa sn sc, .slice pa pn pc, .int .i64 lf, .bool st]] w fun e w' => SyncR (runB ⟨S, P, lf, st⟩) S P lf sn pn w.heap.size w' e ∧ Below w.heap.size w w' := by
  have HH := Lib.hid (show _ ∧ _ from ⟨hS, hP⟩)
  clear hS hP
  go_enter Try.func24, Try.ntmps24
  go_upto_region 1 with fail
  have hbx := blk_alloc (blk_new w (.cells #[.slice sa sn sc, .slice pa pn pc, .int .i64 lf, .bool st] 25)) (.cells #[.slice none 0 0, .slice none 0 0, .int .i64 0, .bool false] 25)
  have hbz := blkZ (W := w.alloc (.cells #[.slice sa sn sc, .slice pa pn pc, .int .i64 lf, .bool st] 25)) (o := .cells #[.slice none 0 0, .slice none 0 0, .int .i64 0, .bool false] 25) (k := w.heap.size + 1) (by simp)
  have hb0 : Below w.heap.size w ((w.alloc (.cells #[.slice sa sn sc, .slice pa pn pc, .int .i64 lf, .bool st] 25)).alloc (.cells #[.slice none 0 0, .slice none 0 0, .int .i64 0, .bool false] 25)) := ((Below.refl _ _).alloc (Nat.le_refl _) _).alloc (by simp) _
  have hlt := blk_lt hbx
  have hlz := blk_lt hbz
  generalize (w.alloc (.cells #[.slice sa sn sc, .slice pa pn pc, .int .i64 lf, .bool st] 25)).alloc (.cells #[.slice none 0 0, .slice none 0 0, .int .i64 0, .bool false] 25) = W1 at *
  have x0 := blk_cell hbx 0
  have x1 := blk_cell hbx 1
  have x2 := blk_cell hbx 2
  have x3 := blk_cell hbx 3
  have H1 := Lib.hid (show _ ∧ _ ∧ _ ∧ _ ∧ _ from ⟨hbx, hbz, hb0, hlt, hlz⟩)
  clear hbx hbz hb0 hlt hlz
  go_wp2_with fail
  refine (rcheck_any S P lf st sa sb so sn sc pa pb po pn pc W1 (HH.out.1.below H1.out.2.2.1 (Nat.le_refl _)) (HH.out.2.below H1.out.2.2.1 (Nat.le_refl _)) hsn hpn).mono ?_
  rintro e W2 ⟨rfl, hb2⟩
  have hbx := blk_below H1.out.1 hb2 H1.out.2.2.2.1
  have hbz := blk_below H1.out.2.1 hb2 H1.out.2.2.2.2
  have hb := H1.out.2.2.1.trans (hb2.mono H1.out.2.2.1.size)
  have hlt := blk_lt hbx
  have hlz := blk_lt hbz
  clear x0 x1 x2 x3 hb2 H1
  have x0 := blk_cell hbx 0
  have x1 := blk_cell hbx 1
  have x2 := blk_cell hbx 2
  have x3 := blk_cell hbx 3
  have z0 := blk_cell hbz 0
  have z1 := blk_cell hbz 1
  have z2 := blk_cell hbz 2
  have z3 := blk_cell hbz 3
  have f0 := blk_free hbz 0
  have f1 := blk_free hbz 1
  have f2 := blk_free hbz 2
  have f3 := blk_free hbz 3
  have H2 := Lib.hid (show _ ∧ _ ∧ _ ∧ _ ∧ _ from ⟨hbx, hbz, hb, hlt, hlz⟩)
  clear hbx hbz hb
  by_cases hv : Valid ⟨S, P, lf, st⟩
  case neg =>
    have HR := Lib.hid (show runB ⟨S, P, lf, st⟩ = false from runB_f (fun h => hv h.1))
    rw [chkE_bad hv]
    clear hv
    go_wp2
    refine bodyPost_ret (v := .tuple #[.agg #[.slice none 0 0, .slice none 0 0, .int .i64 0, .bool false], .int .i64 40]) ?_ rfl ⟨.inl ⟨HR.out, rfl⟩, cell4_below (show w.heap.size ≤ w.heap.size + 1 by omega) H2.out.2.2.1⟩
    exact results_dk_tmp Try.results24 _ _ (w.heap.size + 1) 25 #[.slice none 0 0, .slice none 0 0, .int .i64 0, .bool false] (0, 0) rfl (cell4_set H2.out.2.1) (by kernel_rfl) _ rfl
  rw [chkE_ok hv]
  cases st
  case true =>
    have HR := Lib.hid (show runB ⟨S, P, lf, true⟩ = false from runB_f (fun h => by cases h.2))
    clear hv
    go_wp2
    refine bodyPost_ret (v := .tuple #[.agg #[.slice none 0 0, .slice none 0 0, .int .i64 0, .bool false], .int .i64 40]) ?_ rfl ⟨.inl ⟨HR.out, rfl⟩, cell4_below (show w.heap.size ≤ w.heap.size + 1 by omega) H2.out.2.2.1⟩
    exact results_dk_tmp Try.results24 _ _ (w.heap.size + 1) 25 #[.slice none 0 0, .slice none 0 0, .int .i64 0, .bool false] (0, 0) rfl (cell4_set H2.out.2.1) (by kernel_rfl) _ rfl
  have HR := Lib.hid (runB_t hv rfl)
  have HV := Lib.hid hv
  clear hv
  have hs1 : 0 < sn := by have := HV.out.1.1; have := HH.out.1.len; dsimp only at *; omega
  have hs2 : sn ≤ 4096 := by have := HV.out.1.2.1; have := HH.out.1.len; dsimp only at *; omega
  have hl1 : -1 ≤ lf := HV.out.1.2.2.2.1
  have hl2 : lf ≤ 65536 := HV.out.1.2.2.2.2
  by_cases cA : lf = -1
  · subst cA
    go_upto_region 7 with fail
    clear x0 x1 x2 x3 z0 z1 z2 z3 f0 f1 f2 f3
    obtain ⟨W2d, hW2d⟩ : ∃ W2d, W2d = W2.drew := ⟨_, rfl⟩
    have H3 := Lib.hid (show W2.drew.heap[w.heap.size]? = some (.cells #[.slice sa sn sc, .slice pa pn pc, .int .i64 (-1), .bool false] 25 (0, 0)) ∧ W2.drew.heap[w.heap.size + 1]? = some (.cells #[.slice none 0 0, .slice none 0 0, .int .i64 0, .bool false] 25 (0, 0)) ∧ Below w.heap.size w W2.drew from ⟨H2.out.1, H2.out.2.1, H2.out.2.2.1.drew⟩)
    have hlt2 : w.heap.size + 1 < W2.drew.heap.size := H2.out.2.2.2.2
    go_cut [6] from 7 (fun p wx => ∃ b6 g cap, p = .pointer (some ⟨b6, 0, none⟩) ∧ Hid (wx.heap[b6]? = some (.cells #[.slice (some ⟨g, 0, none⟩) sn cap, .slice none 0 0, .int .i64 (-1), .bool false] 25 (0, 0)) ∧ HdB wx g sn S ∧ wx.heap[w.heap.size]? = some (.cells #[.slice sa sn sc, .slice pa pn pc, .int .i64 (-1), .bool false] 25 (0, 0)) ∧ wx.heap[w.heap.size + 1]? = some (.cells #[.slice none 0 0, .slice none 0 0, .int .i64 0, .bool false] 25 (0, 0)) ∧ Below w.heap.size w wx) ∧ w.heap.size + 1 < b6 ∧ w.heap.size + 1 < g ∧ b6 ≠ g ∧ sn ≤ cap)
    case first =>
      refine wp_region_from 0 0 (fun w' => w'.heap[w.heap.size]? = some (.cells #[.slice sa sn sc, .slice pa pn pc, .int .i64 (-1), .bool false] 25 (0, 0))) (by kernel_rfl) (by kernel_rfl) (by decide) (by kernel_rfl) H2.out.1 ?_
      simp only [List.drop_zero, List.take_zero]
      refine wpHeld_nil ?_
      rw [← hW2d]
      rw [← hW2d] at H3 hlt2
      clear hW2d H2 hlt hlz
      refine wpAnyH_from (fuel := 7) 1 2 (fun _ _ _ _ _ h => h) (by kernel_rfl) (by decide) (by kernel_rfl) H3.out.1 ?_
      simp only [List.drop_succ_cons, List.drop_zero, List.take_succ_cons, List.take_zero]
      refine wpHeld_cons (.pointer (some ⟨w.heap.size, 0, none⟩)) (by kernel_rfl) ?_ ?_
      · intro w' s
        try go_simp
      refine wpHeld_cons (.slice sa sn sc) (by kernel_rfl) ?_ ?_
      · intro w' s
        have y0 := blk_cell s 0
        simp at y0
        try go_simp
      refine wpHeld_nil ?_
      go_simp
      refine wpAnyH_from (fuel := 5) 4 2 (fun _ _ _ _ _ h => h) (by kernel_rfl) (by decide) (by kernel_rfl) H3.out.1 ?_
      simp only [List.drop_succ_cons, List.drop_zero, List.take_succ_cons, List.take_zero]
      refine wpHeld_cons (.pointer (some ⟨w.heap.size, 2, none⟩)) (by kernel_rfl) ?_ ?_
      · intro w' s
        try go_simp
      refine wpHeld_cons (.int .i64 (-1)) (by kernel_rfl) ?_ ?_
      · intro w' s
        have y0 := blk_cell s 2
        simp at y0
        try go_simp
      refine wpHeld_nil ?_
      go_simp
      refine wpAnyH_two (i := 0) (j := 7) (by kernel_rfl) rfl rfl (by kernel_rfl) (by kernel_rfl) (fun K' hK' => ?_) (fun K' hK' => ?_)
      · go_simp
        have K4 := Lib.hid (show _ ∧ _ ∧ _ ∧ Hds _ _ _ [] from ⟨blk_alloc H3.out.1 (.cells #[] 35), blk_alloc H3.out.2.1 (.cells #[] 35), H3.out.2.2.alloc H3.out.2.2.size (.cells #[] 35), Hds.empty' W2d⟩)
        have hsz4 := Lib.hid (show (W2d.alloc (.cells #[] 35)).heap.size = W2d.heap.size + 1 by simp)
        generalize W2d.alloc (.cells #[] 35) = V4 at *
        refine hK' _ _ K4.out.1 ?_
        clear hK' K'
        go_simp
        refine wpAnyH_two (i := 3) (j := 7) (by kernel_rfl) rfl rfl (by kernel_rfl) (by kernel_rfl) (fun K' hK' => ?_) (fun K' hK' => ?_)
        · refine wp_append_hrow (.tmp 32) (.tmp 34) rfl W2d.heap.size (.slice (some ⟨W2d.heap.size, 0, none⟩) 0 0) [] rfl (K4.out.2.2.2) sa sb so sn sc S rfl (by have q := HH.out.1.below K4.out.2.2.1 (Nat.le_refl _); exact ⟨q.len, q.adr, q.old, q.cel⟩) hsc (by simp; omega) (by have := hsz4.out; omega) ?_
          intro v3 V7 hO hB hgr
          rw [List.nil_append] at hO
          obtain ⟨g, cap, rfl, hg, hcap, hd⟩ := hdb_of hO HH.out.1.len hs1
          have K7 := Lib.hid (show _ ∧ _ ∧ _ ∧ _ from ⟨blk_below K4.out.1 hB (by have := hsz4.out; omega), blk_below K4.out.2.1 hB (by have := hsz4.out; omega), K4.out.2.2.1.trans (hB.mono (by have := K4.out.2.2.1.size; have := hsz4.out; omega)), hd⟩)
          have hgw7 : w.heap.size + 1 < g := by have := hsz4.out; omega

          clear hO hB hgr hd
          refine hK' _ _ K7.out.1 ?_
          clear hK' K'
          go_simp
          refine wpAnyH_from (fuel := 2) 6 1 (fun _ _ _ _ _ h => h) (by kernel_rfl) (by decide) (by kernel_rfl) K7.out.1 ?_
          simp only [List.drop_succ_cons, List.drop_zero, List.take_succ_cons, List.take_zero]
          refine wpHeld_cons (.agg #[.slice (some ⟨g, 0, none⟩) sn cap, .slice none 0 0, .int .i64 (-1), .bool false]) (by kernel_rfl) ?_ ?_
          · intro w' s
            try go_simp
          refine wpHeld_nil ?_
          go_simp
          refine wpAnyH_one (i := 7) (by kernel_rfl) rfl (by kernel_rfl) (fun K' hK' => ?_)
          go_simp
          have K8 := Lib.hid (show _ ∧ _ ∧ _ ∧ _ ∧ _ from ⟨blk_alloc K7.out.1 (.cells #[.slice none 0 0, .slice none 0 0, .int .i64 0, .bool false] 25), blk_alloc K7.out.2.1 (.cells #[.slice none 0 0, .slice none 0 0, .int .i64 0, .bool false] 25), K7.out.2.2.1.alloc K7.out.2.2.1.size (.cells #[.slice none 0 0, .slice none 0 0, .int .i64 0, .bool false] 25), K7.out.2.2.2.alloc (.cells #[.slice none 0 0, .slice none 0 0, .int .i64 0, .bool false] 25), blk_new V7 (.cells #[.slice none 0 0, .slice none 0 0, .int .i64 0, .bool false] 25)⟩)
          have hsz8 := Lib.hid (show (V7.alloc (.cells #[.slice none 0 0, .slice none 0 0, .int .i64 0, .bool false] 25)).heap.size = V7.heap.size + 1 by simp)
          have hgl8 := K7.out.2.2.2.lt
          generalize V7.alloc (.cells #[.slice none 0 0, .slice none 0 0, .int .i64 0, .bool false] 25) = V8 at *
          refine hK' _ _ K8.out.1 ?_
          clear hK' K'
          go_simp
          have hnz : V7.heap.size ≠ g := by have := hsz4.out; have := hsz8.out; omega
          have z0 := blk_cell K8.out.2.2.2.2 0
          have z1 := blk_cell K8.out.2.2.2.2 1
          have z2 := blk_cell K8.out.2.2.2.2 2
          have z3 := blk_cell K8.out.2.2.2.2 3
          have f0 := blk_free K8.out.2.2.2.2 0
          have f1 := blk_free K8.out.2.2.2.2 1
          have f2 := blk_free K8.out.2.2.2.2 2
          have f3 := blk_free K8.out.2.2.2.2 3
          refine wpAnyH_one (i := 8) (by kernel_rfl) rfl (by kernel_rfl) (fun K' hK' => ?_)
          go_simp
          have hx9 := cell4_other (u0 := .slice (some ⟨g, 0, none⟩) sn cap) (u1 := .slice none 0 0) (u2 := .int .i64 (-1)) (u3 := .bool false) K8.out.1 (show w.heap.size ≠ V7.heap.size by have := hsz4.out; have := hsz8.out; omega)
          have HF := Lib.hid (show _ ∧ _ ∧ _ ∧ _ ∧ _ from ⟨cell4_set (u0 := .slice (some ⟨g, 0, none⟩) sn cap) (u1 := .slice none 0 0) (u2 := .int .i64 (-1)) (u3 := .bool false) K8.out.2.2.2.2, K8.out.2.2.2.1.other (cell4_keep (u0 := .slice (some ⟨g, 0, none⟩) sn cap) (u1 := .slice none 0 0) (u2 := .int .i64 (-1)) (u3 := .bool false) (Ne.symm hnz)), hx9, cell4_other (u0 := .slice (some ⟨g, 0, none⟩) sn cap) (u1 := .slice none 0 0) (u2 := .int .i64 (-1)) (u3 := .bool false) K8.out.2.1 (show w.heap.size + 1 ≠ V7.heap.size by have := hsz4.out; have := hsz8.out; omega), cell4_below (u0 := .slice (some ⟨g, 0, none⟩) sn cap) (u1 := .slice none 0 0) (u2 := .int .i64 (-1)) (u3 := .bool false) (show w.heap.size ≤ V7.heap.size by have := hsz4.out; have := hsz8.out; omega) K8.out.2.2.1⟩)
          refine hK' _ _ hx9 ?_
          clear hK' K' z0 z1 z2 z3 f0 f1 f2 f3 hx9
          refine wpAnyH_done (by kernel_rfl) ?_ _
          refine NoPanic.normal ?_
          go_simp
          go_wp2_with fail
          go_meet
          case rel => exact ⟨_, g, cap, rfl, HF, by have := hsz4.out; have := hsz8.out; omega, by have := hsz4.out; have := hsz8.out; omega, hnz, hcap⟩
        · go_simp
          have K5 := Lib.hid (show _ ∧ _ ∧ _ ∧ Hds _ _ _ [] ∧ _ from ⟨blk_alloc K4.out.1 (.cells #[.slice none 0 0, .slice none 0 0, .int .i64 0, .bool false] 25), blk_alloc K4.out.2.1 (.cells #[.slice none 0 0, .slice none 0 0, .int .i64 0, .bool false] 25), K4.out.2.2.1.alloc K4.out.2.2.1.size (.cells #[.slice none 0 0, .slice none 0 0, .int .i64 0, .bool false] 25), K4.out.2.2.2.alloc (.cells #[.slice none 0 0, .slice none 0 0, .int .i64 0, .bool false] 25), blk_new V4 (.cells #[.slice none 0 0, .slice none 0 0, .int .i64 0, .bool false] 25)⟩)
          have hsz5 := Lib.hid (show (V4.alloc (.cells #[.slice none 0 0, .slice none 0 0, .int .i64 0, .bool false] 25)).heap.size = V4.heap.size + 1 by simp)

          generalize V4.alloc (.cells #[.slice none 0 0, .slice none 0 0, .int .i64 0, .bool false] 25) = V5 at *
          refine hK' _ _ K5.out.1 ?_
          clear hK' K'
          go_simp
          refine wpAnyH_one (i := 3) (by kernel_rfl) rfl (by kernel_rfl) (fun K' hK' => ?_)
          refine wp_append_hrow (.tmp 32) (.tmp 34) rfl W2d.heap.size (.slice (some ⟨W2d.heap.size, 0, none⟩) 0 0) [] rfl (K5.out.2.2.2.1) sa sb so sn sc S rfl (by have q := HH.out.1.below K5.out.2.2.1 (Nat.le_refl _); exact ⟨q.len, q.adr, q.old, q.cel⟩) hsc (by simp; omega) (by have := hsz4.out; have := hsz5.out; omega) ?_
          intro v3 V6 hO hB hgr
          rw [List.nil_append] at hO
          obtain ⟨g, cap, rfl, hg, hcap, hd⟩ := hdb_of hO HH.out.1.len hs1
          have hzb6 := (hgr.block V4.heap.size (blk_lt K5.out.2.2.2.2) (fun q => by have q' : V4.heap.size = W2d.heap.size := Option.some.inj q; have := hsz4.out; have := hsz5.out; omega)).trans K5.out.2.2.2.2
          have hne6 : V4.heap.size ≠ g := hdb_ne hzb6 hO
          have K6 := Lib.hid (show _ ∧ _ ∧ _ ∧ _ ∧ _ from ⟨blk_below K5.out.1 hB (by have := hsz4.out; have := hsz5.out; omega), blk_below K5.out.2.1 hB (by have := hsz4.out; have := hsz5.out; omega), K5.out.2.2.1.trans (hB.mono (by have := K5.out.2.2.1.size; have := hsz4.out; have := hsz5.out; omega)), hd, hzb6⟩)
          have hgw6 : w.heap.size + 1 < g := by have := hsz4.out; have := hsz5.out; omega
          clear hzb6
          clear hO hB hgr hd
          refine hK' _ _ K6.out.1 ?_
          clear hK' K'
          go_simp
          refine wpAnyH_from (fuel := 1) 6 1 (fun _ _ _ _ _ h => h) (by kernel_rfl) (by decide) (by kernel_rfl) K6.out.1 ?_
          simp only [List.drop_succ_cons, List.drop_zero, List.take_succ_cons, List.take_zero]
          refine wpHeld_cons (.agg #[.slice (some ⟨g, 0, none⟩) sn cap, .slice none 0 0, .int .i64 (-1), .bool false]) (by kernel_rfl) ?_ ?_
          · intro w' s
            try go_simp
          refine wpHeld_nil ?_
          go_simp
          have hnz : V4.heap.size ≠ g := by have := hsz4.out; have := hsz5.out; omega
          have z0 := blk_cell K6.out.2.2.2.2 0
          have z1 := blk_cell K6.out.2.2.2.2 1
          have z2 := blk_cell K6.out.2.2.2.2 2
          have z3 := blk_cell K6.out.2.2.2.2 3
          have f0 := blk_free K6.out.2.2.2.2 0
          have f1 := blk_free K6.out.2.2.2.2 1
          have f2 := blk_free K6.out.2.2.2.2 2
          have f3 := blk_free K6.out.2.2.2.2 3
          refine wpAnyH_one (i := 8) (by kernel_rfl) rfl (by kernel_rfl) (fun K' hK' => ?_)
          go_simp
          have hx9 := cell4_other (u0 := .slice (some ⟨g, 0, none⟩) sn cap) (u1 := .slice none 0 0) (u2 := .int .i64 (-1)) (u3 := .bool false) K6.out.1 (show w.heap.size ≠ V4.heap.size by have := hsz4.out; have := hsz5.out; omega)
          have HF := Lib.hid (show _ ∧ _ ∧ _ ∧ _ ∧ _ from ⟨cell4_set (u0 := .slice (some ⟨g, 0, none⟩) sn cap) (u1 := .slice none 0 0) (u2 := .int .i64 (-1)) (u3 := .bool false) K6.out.2.2.2.2, K6.out.2.2.2.1.other (cell4_keep (u0 := .slice (some ⟨g, 0, none⟩) sn cap) (u1 := .slice none 0 0) (u2 := .int .i64 (-1)) (u3 := .bool false) (Ne.symm hnz)), hx9, cell4_other (u0 := .slice (some ⟨g, 0, none⟩) sn cap) (u1 := .slice none 0 0) (u2 := .int .i64 (-1)) (u3 := .bool false) K6.out.2.1 (show w.heap.size + 1 ≠ V4.heap.size by have := hsz4.out; have := hsz5.out; omega), cell4_below (u0 := .slice (some ⟨g, 0, none⟩) sn cap) (u1 := .slice none 0 0) (u2 := .int .i64 (-1)) (u3 := .bool false) (show w.heap.size ≤ V4.heap.size by have := hsz4.out; have := hsz5.out; omega) K6.out.2.2.1⟩)
          refine hK' _ _ hx9 ?_
          clear hK' K' z0 z1 z2 z3 f0 f1 f2 f3 hx9
          refine wpAnyH_done (by kernel_rfl) ?_ _
          refine NoPanic.normal ?_
          go_simp
          go_wp2_with fail
          go_meet
          case rel => exact ⟨_, g, cap, rfl, HF, by have := hsz4.out; have := hsz5.out; omega, by have := hsz4.out; have := hsz5.out; omega, hnz, hcap⟩
      · go_simp
        have K1 := Lib.hid (show _ ∧ _ ∧ _ ∧ _ from ⟨blk_alloc H3.out.1 (.cells #[.slice none 0 0, .slice none 0 0, .int .i64 0, .bool false] 25), blk_alloc H3.out.2.1 (.cells #[.slice none 0 0, .slice none 0 0, .int .i64 0, .bool false] 25), H3.out.2.2.alloc H3.out.2.2.size (.cells #[.slice none 0 0, .slice none 0 0, .int .i64 0, .bool false] 25), blk_new W2d (.cells #[.slice none 0 0, .slice none 0 0, .int .i64 0, .bool false] 25)⟩)
        have hsz1 := Lib.hid (show (W2d.alloc (.cells #[.slice none 0 0, .slice none 0 0, .int .i64 0, .bool false] 25)).heap.size = W2d.heap.size + 1 by simp)

        generalize W2d.alloc (.cells #[.slice none 0 0, .slice none 0 0, .int .i64 0, .bool false] 25) = V1 at *
        refine hK' _ _ K1.out.1 ?_
        clear hK' K'
        go_simp
        refine wpAnyH_one (i := 0) (by kernel_rfl) rfl (by kernel_rfl) (fun K' hK' => ?_)
        go_simp
        have K2 := Lib.hid (show _ ∧ _ ∧ _ ∧ Hds _ _ _ [] ∧ _ from ⟨blk_alloc K1.out.1 (.cells #[] 35), blk_alloc K1.out.2.1 (.cells #[] 35), K1.out.2.2.1.alloc K1.out.2.2.1.size (.cells #[] 35), Hds.empty' V1, blk_alloc K1.out.2.2.2 (.cells #[] 35)⟩)
        have hsz2 := Lib.hid (show (V1.alloc (.cells #[] 35)).heap.size = V1.heap.size + 1 by simp)
        generalize V1.alloc (.cells #[] 35) = V2 at *
        refine hK' _ _ K2.out.1 ?_
        clear hK' K'
        go_simp
        refine wpAnyH_one (i := 3) (by kernel_rfl) rfl (by kernel_rfl) (fun K' hK' => ?_)
        refine wp_append_hrow (.tmp 32) (.tmp 34) rfl V1.heap.size (.slice (some ⟨V1.heap.size, 0, none⟩) 0 0) [] rfl (K2.out.2.2.2.1) sa sb so sn sc S rfl (by have q := HH.out.1.below K2.out.2.2.1 (Nat.le_refl _); exact ⟨q.len, q.adr, q.old, q.cel⟩) hsc (by simp; omega) (by have := hsz1.out; have := hsz2.out; omega) ?_
        intro v3 V3 hO hB hgr
        rw [List.nil_append] at hO
        obtain ⟨g, cap, rfl, hg, hcap, hd⟩ := hdb_of hO HH.out.1.len hs1
        have hzb3 := (hgr.block W2d.heap.size (blk_lt K2.out.2.2.2.2) (fun q => by have q' : W2d.heap.size = V1.heap.size := Option.some.inj q; have := hsz1.out; have := hsz2.out; omega)).trans K2.out.2.2.2.2
        have hne3 : W2d.heap.size ≠ g := hdb_ne hzb3 hO
        have K3 := Lib.hid (show _ ∧ _ ∧ _ ∧ _ ∧ _ from ⟨blk_below K2.out.1 hB (by have := hsz1.out; have := hsz2.out; omega), blk_below K2.out.2.1 hB (by have := hsz1.out; have := hsz2.out; omega), K2.out.2.2.1.trans (hB.mono (by have := K2.out.2.2.1.size; have := hsz1.out; have := hsz2.out; omega)), hd, hzb3⟩)
        have hgw3 : w.heap.size + 1 < g := by have := hsz1.out; have := hsz2.out; omega
        clear hzb3
        clear hO hB hgr hd
        refine hK' _ _ K3.out.1 ?_
        clear hK' K'
        go_simp
        refine wpAnyH_from (fuel := 1) 6 1 (fun _ _ _ _ _ h => h) (by kernel_rfl) (by decide) (by kernel_rfl) K3.out.1 ?_
        simp only [List.drop_succ_cons, List.drop_zero, List.take_succ_cons, List.take_zero]
        refine wpHeld_cons (.agg #[.slice (some ⟨g, 0, none⟩) sn cap, .slice none 0 0, .int .i64 (-1), .bool false]) (by kernel_rfl) ?_ ?_
        · intro w' s
          try go_simp
        refine wpHeld_nil ?_
        go_simp
        have hnz : W2d.heap.size ≠ g := by have := hsz1.out; have := hsz2.out; omega
        have z0 := blk_cell K3.out.2.2.2.2 0
        have z1 := blk_cell K3.out.2.2.2.2 1
        have z2 := blk_cell K3.out.2.2.2.2 2
        have z3 := blk_cell K3.out.2.2.2.2 3
        have f0 := blk_free K3.out.2.2.2.2 0
        have f1 := blk_free K3.out.2.2.2.2 1
        have f2 := blk_free K3.out.2.2.2.2 2
        have f3 := blk_free K3.out.2.2.2.2 3
        refine wpAnyH_one (i := 8) (by kernel_rfl) rfl (by kernel_rfl) (fun K' hK' => ?_)
        go_simp
        have hx9 := cell4_other (u0 := .slice (some ⟨g, 0, none⟩) sn cap) (u1 := .slice none 0 0) (u2 := .int .i64 (-1)) (u3 := .bool false) K3.out.1 (show w.heap.size ≠ W2d.heap.size by have := hsz1.out; have := hsz2.out; omega)
        have HF := Lib.hid (show _ ∧ _ ∧ _ ∧ _ ∧ _ from ⟨cell4_set (u0 := .slice (some ⟨g, 0, none⟩) sn cap) (u1 := .slice none 0 0) (u2 := .int .i64 (-1)) (u3 := .bool false) K3.out.2.2.2.2, K3.out.2.2.2.1.other (cell4_keep (u0 := .slice (some ⟨g, 0, none⟩) sn cap) (u1 := .slice none 0 0) (u2 := .int .i64 (-1)) (u3 := .bool false) (Ne.symm hnz)), hx9, cell4_other (u0 := .slice (some ⟨g, 0, none⟩) sn cap) (u1 := .slice none 0 0) (u2 := .int .i64 (-1)) (u3 := .bool false) K3.out.2.1 (show w.heap.size + 1 ≠ W2d.heap.size by have := hsz1.out; have := hsz2.out; omega), cell4_below (u0 := .slice (some ⟨g, 0, none⟩) sn cap) (u1 := .slice none 0 0) (u2 := .int .i64 (-1)) (u3 := .bool false) (show w.heap.size ≤ W2d.heap.size by have := hsz1.out; have := hsz2.out; omega) K3.out.2.2.1⟩)
        refine hK' _ _ hx9 ?_
        clear hK' K' z0 z1 z2 z3 f0 f1 f2 f3 hx9
        refine wpAnyH_done (by kernel_rfl) ?_ _
        refine NoPanic.normal ?_
        go_simp
        go_wp2_with fail
        go_meet
        case rel => exact ⟨_, g, cap, rfl, HF, by have := hsz1.out; have := hsz2.out; omega, by have := hsz1.out; have := hsz2.out; omega, hnz, hcap⟩
    case rest =>
      obtain ⟨b6, g, cap, rfl, HC6, hb6, hg6, hbg, hcap⟩ := hcut
      clear H2 hlt hlz
      go_wp2_with fail
      go_loopw [7] (fun v wr => ∃ k : Nat, k ≤ pn ∧ v = .int .i64 k ∧ Hid (wr.heap[b6]? = some (.cells #[.slice (some ⟨g, 0, none⟩) sn cap, .slice none 0 0, .int .i64 (-1), .bool false] 25 (0, 0)) ∧ HdB wr g sn (perfK S P k) ∧ wr.heap[w.heap.size]? = some (.cells #[.slice sa sn sc, .slice pa pn pc, .int .i64 (-1), .bool false] 25 (0, 0)) ∧ wr.heap[w.heap.size + 1]? = some (.cells #[.slice none 0 0, .slice none 0 0, .int .i64 0, .bool false] 25 (0, 0)) ∧ Below w.heap.size w wr)) (fun v _ => pn - (intOf v).toNat)
      case atStart => exact ⟨0, Nat.zero_le _, rfl, HC6⟩
      case round =>
        obtain ⟨k, hk, rfl, HQ⟩ := hrel
        by_cases hkm : k < pn
        · have j1 : (k : Int) < (pn : Int) := by omega
          have j2 : ¬ (k : Int) < 0 := by omega
          have hkp : k < pn := by omega
          have j3 : (k : Int) < (pn : Int) := by omega
          have u1 : IntKind.i64.wrap ((k : Int) + 1) = ((k + 1 : Nat) : Int) := (wrap_id (by omega)).trans (by omega)
          obtain rfl := HH.out.2.adr (by omega)
          have hwr := wr_ok HV.out (k := k) (by have := HH.out.2.len; omega)
          rw [HH.out.1.len] at hwr
          obtain ⟨t, ht⟩ := Int.eq_ofNat_of_zero_le hwr.1
          have hts : t < sn := by omega
          have j4 : (t : Int) < (sn : Int) := by omega
          have j5 : ¬ (t : Int) < 0 := by omega
          have hpo := HH.out.2.old (by omega)
          have a0 := (HQ.out.2.2.2.2.cell (p := ⟨pb, po + k * 2, none⟩) hpo).trans (HH.out.2.at_ k hkp)
          have a1 := (HQ.out.2.2.2.2.cell (p := ⟨pb, po + k * 2 + 1, none⟩) hpo).trans (HH.out.2.cel k hkp)
          rw [ht] at a0
          have hpk : perfK S P (k + 1) = (perfK S P k).set t (nW P k).2 := by rw [perfK, ht]; rfl
          obtain ⟨N, hN⟩ : ∃ N : Sl, N = (nW P k).2 := ⟨_, rfl⟩
          rw [← hN] at a1 hpk
          unfold slV at a1
          have HK := Lib.hid (show _ ∧ _ ∧ _ ∧ _ from ⟨hkm, hts, hpk, hpo⟩)
          have HA := Lib.hid (And.intro a0 a1)
          clear hwr ht hN hkm hk hts hpk hpo a0 a1
          go_wp2_with fail
          refine wp_region_from 0 15 (fun w' => w'.heap[b6]? = some (.cells #[.slice (some ⟨g, 0, none⟩) sn cap, .slice none 0 0, .int .i64 (-1), .bool false] 25 (0, 0)) ∧ w'.heap[w.heap.size]? = some (.cells #[.slice sa sn sc, .slice (some ⟨pb, po, none⟩) pn pc, .int .i64 (-1), .bool false] 25 (0, 0)) ∧ w'.cell? ⟨pb, po + k * 2, none⟩ = some (.int .i64 (t : Int)) ∧ w'.cell? ⟨pb, po + k * 2 + 1, none⟩ = some (.slice N.1 N.2.2.length N.2.1)) (by kernel_rfl) (by kernel_rfl) (by decide) (by kernel_rfl) ⟨HQ.out.1, HQ.out.2.2.1, HA.out.1, HA.out.2⟩ ?_
          simp only [List.drop_zero, List.take_succ_cons, List.take_zero]
          refine wpHeld_cons (.pointer (some ⟨b6, 0, none⟩)) (by kernel_rfl) ?_ ?_
          · rintro w' ⟨s1, s2, s3, s4⟩
            try go_simp
          refine wpHeld_cons (.slice (some ⟨g, 0, none⟩) sn cap) (by kernel_rfl) ?_ ?_
          · rintro w' ⟨s1, s2, s3, s4⟩
            have y0 := blk_cell s1 0
            simp at y0
            try go_simp
          refine wpHeld_cons (.pointer (some ⟨w.heap.size, 1, none⟩)) (by kernel_rfl) ?_ ?_
          · rintro w' ⟨s1, s2, s3, s4⟩
            try go_simp
          refine wpHeld_cons (.slice (some ⟨pb, po, none⟩) pn pc) (by kernel_rfl) ?_ ?_
          · rintro w' ⟨s1, s2, s3, s4⟩
            have y1 := blk_cell s2 1
            simp at y1
            try go_simp
          refine wpHeld_cons (.int .i64 (k : Int)) (by kernel_rfl) ?_ ?_
          · rintro w' ⟨s1, s2, s3, s4⟩
            try go_simp
          refine wpHeld_cons (.pointer (some ⟨pb, po + k * 2, none⟩)) (by kernel_rfl) ?_ ?_
          · rintro w' ⟨s1, s2, s3, s4⟩
            try go_simp
          refine wpHeld_cons (.pointer (some ⟨pb, po + k * 2, none⟩)) (by kernel_rfl) ?_ ?_
          · rintro w' ⟨s1, s2, s3, s4⟩
            try go_simp
          refine wpHeld_cons (.int .i64 (t : Int)) (by kernel_rfl) ?_ ?_
          · rintro w' ⟨s1, s2, s3, s4⟩
            try go_simp
          refine wpHeld_cons (.pointer (some ⟨w.heap.size, 1, none⟩)) (by kernel_rfl) ?_ ?_
          · rintro w' ⟨s1, s2, s3, s4⟩
            try go_simp
          refine wpHeld_cons (.slice (some ⟨pb, po, none⟩) pn pc) (by kernel_rfl) ?_ ?_
          · rintro w' ⟨s1, s2, s3, s4⟩
            have y1 := blk_cell s2 1
            simp at y1
            try go_simp
          refine wpHeld_cons (.int .i64 (k : Int)) (by kernel_rfl) ?_ ?_
          · rintro w' ⟨s1, s2, s3, s4⟩
            try go_simp
          refine wpHeld_cons (.pointer (some ⟨pb, po + k * 2, none⟩)) (by kernel_rfl) ?_ ?_
          · rintro w' ⟨s1, s2, s3, s4⟩
            try go_simp
          refine wpHeld_cons (.pointer (some ⟨pb, po + k * 2 + 1, none⟩)) (by kernel_rfl) ?_ ?_
          · rintro w' ⟨s1, s2, s3, s4⟩
            try go_simp
          refine wpHeld_cons (.slice N.1 N.2.2.length N.2.1) (by kernel_rfl) ?_ ?_
          · rintro w' ⟨s1, s2, s3, s4⟩
            try go_simp
          refine wpHeld_cons (.pointer (some ⟨g, t, none⟩)) (by kernel_rfl) ?_ ?_
          · rintro w' ⟨s1, s2, s3, s4⟩
            try go_simp
          refine wpHeld_nil ?_
          go_simp
          refine wpAnyH_one (i := 15) (by kernel_rfl) rfl (by kernel_rfl) (fun K' hK' => ?_)
          obtain ⟨wd, hwd⟩ : ∃ wd, wd = wr.drew := ⟨_, rfl⟩
          have HD := Lib.hid (show wr.drew.heap[b6]? = some (.cells #[.slice (some ⟨g, 0, none⟩) sn cap, .slice none 0 0, .int .i64 (-1), .bool false] 25 (0, 0)) ∧ HdB wr.drew g sn (perfK S P k) ∧ wr.drew.heap[w.heap.size]? = some (.cells #[.slice sa sn sc, .slice (some ⟨pb, po, none⟩) pn pc, .int .i64 (-1), .bool false] 25 (0, 0)) ∧ wr.drew.heap[w.heap.size + 1]? = some (.cells #[.slice none 0 0, .slice none 0 0, .int .i64 0, .bool false] 25 (0, 0)) ∧ Below w.heap.size w wr.drew from ⟨HQ.out.1, HQ.out.2.1.other rfl, HQ.out.2.2.1, HQ.out.2.2.2.1, HQ.out.2.2.2.2.drew⟩)
          have HA' := Lib.hid (show wr.drew.cell? ⟨pb, po + k * 2, none⟩ = some (.int .i64 (t : Int)) ∧ wr.drew.cell? ⟨pb, po + k * 2 + 1, none⟩ = some (.slice N.1 N.2.2.length N.2.1) from ⟨HA.out.1, HA.out.2⟩)
          rw [← hwd] at HD HA' ⊢
          clear hwd HA HQ
          have c0 := HD.out.2.1.cell HK.out.2.1
          have k0 := HD.out.2.1.free t
          unfold slV at c0
          go_simp
          have hne : pb ≠ g := by have := HK.out.2.2.2; omega
          have hb7 := (Below.heap_setCell wd ⟨g, t, none⟩ (.slice N.1 N.2.2.length N.2.1) b6 hbg).trans HD.out.1
          have hx7 := (Below.heap_setCell wd ⟨g, t, none⟩ (.slice N.1 N.2.2.length N.2.1) w.heap.size (show w.heap.size ≠ g by omega)).trans HD.out.2.2.1
          have HE := Lib.hid (show (wd.setCell ⟨g, t, none⟩ (.slice N.1 N.2.2.length N.2.1)).heap[b6]? = some (.cells #[.slice (some ⟨g, 0, none⟩) sn cap, .slice none 0 0, .int .i64 (-1), .bool false] 25 (0, 0)) ∧ HdB (wd.setCell ⟨g, t, none⟩ (.slice N.1 N.2.2.length N.2.1)) g sn (perfK S P (k + 1)) ∧ (wd.setCell ⟨g, t, none⟩ (.slice N.1 N.2.2.length N.2.1)).heap[w.heap.size]? = some (.cells #[.slice sa sn sc, .slice (some ⟨pb, po, none⟩) pn pc, .int .i64 (-1), .bool false] 25 (0, 0)) ∧ (wd.setCell ⟨g, t, none⟩ (.slice N.1 N.2.2.length N.2.1)).heap[w.heap.size + 1]? = some (.cells #[.slice none 0 0, .slice none 0 0, .int .i64 0, .bool false] 25 (0, 0)) ∧ Below w.heap.size w (wd.setCell ⟨g, t, none⟩ (.slice N.1 N.2.2.length N.2.1)) from ⟨hb7, by rw [HK.out.2.2.1]; exact HD.out.2.1.set HK.out.2.1, hx7, (Below.heap_setCell wd ⟨g, t, none⟩ (.slice N.1 N.2.2.length N.2.1) (w.heap.size + 1) (show w.heap.size + 1 ≠ g by omega)).trans HD.out.2.2.2.1, HD.out.2.2.2.2.setCell (p := ⟨g, t, none⟩) (show w.heap.size ≤ g by omega) _⟩)
          refine hK' _ _ ⟨hb7, hx7, by unfold World.cell?; rw [Below.heap_setCell wd ⟨g, t, none⟩ _ pb hne]; exact HA'.out.1, by unfold World.cell?; rw [Below.heap_setCell wd ⟨g, t, none⟩ _ pb hne]; exact HA'.out.2⟩ ?_
          clear hK' K' hb7 hx7 c0 k0 HD HA'
          generalize wd.setCell ⟨g, t, none⟩ (.slice N.1 N.2.2.length N.2.1) = We at *
          refine wpAnyH_done (by kernel_rfl) ?_ _
          refine NoPanic.normal ?_
          go_simp
          go_wp2_with fail
          go_roundw
          case rel => exact ⟨k + 1, HK.out.1, by go_num, HE⟩
          case measure => have := HK.out.1; simp [intOf]; omega
        · obtain rfl : k = pn := by omega
          have j1 : ¬ (k : Int) < (k : Int) := by omega
          have y0 := blk_cell HQ.out.1 0
          have y1 := blk_cell HQ.out.1 1
          have y2 := blk_cell HQ.out.1 2
          have y3 := blk_cell HQ.out.1 3
          have z0 := blk_cell HQ.out.2.2.2.1 0
          have z1 := blk_cell HQ.out.2.2.2.1 1
          have z2 := blk_cell HQ.out.2.2.2.1 2
          have z3 := blk_cell HQ.out.2.2.2.1 3
          have f0 := blk_free HQ.out.2.2.2.1 0
          have f1 := blk_free HQ.out.2.2.2.1 1
          have f2 := blk_free HQ.out.2.2.2.1 2
          have f3 := blk_free HQ.out.2.2.2.1 3
          go_wp2
          have hbF := cell4_below (u0 := .slice (some ⟨g, 0, none⟩) sn cap) (u1 := .slice none 0 0) (u2 := .int .i64 (-1)) (u3 := .bool false) (show w.heap.size ≤ w.heap.size + 1 by omega) HQ.out.2.2.2.2
          have hdF := HQ.out.2.1.other (cell4_keep (u0 := .slice (some ⟨g, 0, none⟩) sn cap) (u1 := .slice none 0 0) (u2 := .int .i64 (-1)) (u3 := .bool false) (show g ≠ w.heap.size + 1 by omega))
          refine bodyPost_ret (v := .tuple #[.agg #[.slice (some ⟨g, 0, none⟩) sn cap, .slice none 0 0, .int .i64 (-1), .bool false], .int .i64 0]) ?_ rfl ⟨.inr (.inl ⟨HR.out, .inl rfl, g, cap, hcap, by omega, secs_of_hdb hdF ?_, by simp⟩), hbF⟩
          · exact results_dk_tmp Try.results24 _ _ (w.heap.size + 1) 25 #[.slice (some ⟨g, 0, none⟩) sn cap, .slice none 0 0, .int .i64 (-1), .bool false] (0, 0) rfl (cell4_set HQ.out.2.2.2.1) (by kernel_rfl) _ rfl
          · exact fun i hi => perfK_row (SlR _) (fun i hi => (HH.out.1.row i (by have := HH.out.1.len; omega)).below hbF (Nat.le_refl _)) k (fun j hj => (HH.out.2.row j hj).below hbF (Nat.le_refl _)) i (by have := HH.out.1.len; omega)
  have hl0 : 0 ≤ lf := by omega
  by_cases cB : (pn : Int) ≤ lf
  · have e1 : ¬ lf < (pn : Int) := by omega
    have HC := Lib.hid (And.intro cA cB)
    clear cA hl1
    go_upto_region 7 with fail
    clear x0 x1 x2 x3 z0 z1 z2 z3 f0 f1 f2 f3
    obtain ⟨W2d, hW2d⟩ : ∃ W2d, W2d = W2.drew := ⟨_, rfl⟩
    have H3 := Lib.hid (show W2.drew.heap[w.heap.size]? = some (.cells #[.slice sa sn sc, .slice pa pn pc, .int .i64 lf, .bool false] 25 (0, 0)) ∧ W2.drew.heap[w.heap.size + 1]? = some (.cells #[.slice none 0 0, .slice none 0 0, .int .i64 0, .bool false] 25 (0, 0)) ∧ Below w.heap.size w W2.drew from ⟨H2.out.1, H2.out.2.1, H2.out.2.2.1.drew⟩)
    have hlt2 : w.heap.size + 1 < W2.drew.heap.size := H2.out.2.2.2.2
    go_cut [6] from 7 (fun p wx => ∃ b6 g cap, p = .pointer (some ⟨b6, 0, none⟩) ∧ Hid (wx.heap[b6]? = some (.cells #[.slice (some ⟨g, 0, none⟩) sn cap, .slice none 0 0, .int .i64 lf, .bool false] 25 (0, 0)) ∧ HdB wx g sn S ∧ wx.heap[w.heap.size]? = some (.cells #[.slice sa sn sc, .slice pa pn pc, .int .i64 lf, .bool false] 25 (0, 0)) ∧ wx.heap[w.heap.size + 1]? = some (.cells #[.slice none 0 0, .slice none 0 0, .int .i64 0, .bool false] 25 (0, 0)) ∧ Below w.heap.size w wx) ∧ w.heap.size + 1 < b6 ∧ w.heap.size + 1 < g ∧ b6 ≠ g ∧ sn ≤ cap)
    case first =>
      refine wp_region_from 0 0 (fun w' => w'.heap[w.heap.size]? = some (.cells #[.slice sa sn sc, .slice pa pn pc, .int .i64 lf, .bool false] 25 (0, 0))) (by kernel_rfl) (by kernel_rfl) (by decide) (by kernel_rfl) H2.out.1 ?_
      simp only [List.drop_zero, List.take_zero]
      refine wpHeld_nil ?_
      rw [← hW2d]
      rw [← hW2d] at H3 hlt2
      clear hW2d H2 hlt hlz
      refine wpAnyH_from (fuel := 7) 1 2 (fun _ _ _ _ _ h => h) (by kernel_rfl) (by decide) (by kernel_rfl) H3.out.1 ?_
      simp only [List.drop_succ_cons, List.drop_zero, List.take_succ_cons, List.take_zero]
      refine wpHeld_cons (.pointer (some ⟨w.heap.size, 0, none⟩)) (by kernel_rfl) ?_ ?_
      · intro w' s
        try go_simp
      refine wpHeld_cons (.slice sa sn sc) (by kernel_rfl) ?_ ?_
      · intro w' s
        have y0 := blk_cell s 0
        simp at y0
        try go_simp
      refine wpHeld_nil ?_
      go_simp
      refine wpAnyH_from (fuel := 5) 4 2 (fun _ _ _ _ _ h => h) (by kernel_rfl) (by decide) (by kernel_rfl) H3.out.1 ?_
      simp only [List.drop_succ_cons, List.drop_zero, List.take_succ_cons, List.take_zero]
      refine wpHeld_cons (.pointer (some ⟨w.heap.size, 2, none⟩)) (by kernel_rfl) ?_ ?_
      · intro w' s
        try go_simp
      refine wpHeld_cons (.int .i64 lf) (by kernel_rfl) ?_ ?_
      · intro w' s
        have y0 := blk_cell s 2
        simp at y0
        try go_simp
      refine wpHeld_nil ?_
      go_simp
      refine wpAnyH_two (i := 0) (j := 7) (by kernel_rfl) rfl rfl (by kernel_rfl) (by kernel_rfl) (fun K' hK' => ?_) (fun K' hK' => ?_)
      · go_simp
        have K4 := Lib.hid (show _ ∧ _ ∧ _ ∧ Hds _ _ _ [] from ⟨blk_alloc H3.out.1 (.cells #[] 35), blk_alloc H3.out.2.1 (.cells #[] 35), H3.out.2.2.alloc H3.out.2.2.size (.cells #[] 35), Hds.empty' W2d⟩)
        have hsz4 := Lib.hid (show (W2d.alloc (.cells #[] 35)).heap.size = W2d.heap.size + 1 by simp)
        generalize W2d.alloc (.cells #[] 35) = V4 at *
        refine hK' _ _ K4.out.1 ?_
        clear hK' K'
        go_simp
        refine wpAnyH_two (i := 3) (j := 7) (by kernel_rfl) rfl rfl (by kernel_rfl) (by kernel_rfl) (fun K' hK' => ?_) (fun K' hK' => ?_)
        · refine wp_append_hrow (.tmp 32) (.tmp 34) rfl W2d.heap.size (.slice (some ⟨W2d.heap.size, 0, none⟩) 0 0) [] rfl (K4.out.2.2.2) sa sb so sn sc S rfl (by have q := HH.out.1.below K4.out.2.2.1 (Nat.le_refl _); exact ⟨q.len, q.adr, q.old, q.cel⟩) hsc (by simp; omega) (by have := hsz4.out; omega) ?_
          intro v3 V7 hO hB hgr
          rw [List.nil_append] at hO
          obtain ⟨g, cap, rfl, hg, hcap, hd⟩ := hdb_of hO HH.out.1.len hs1
          have K7 := Lib.hid (show _ ∧ _ ∧ _ ∧ _ from ⟨blk_below K4.out.1 hB (by have := hsz4.out; omega), blk_below K4.out.2.1 hB (by have := hsz4.out; omega), K4.out.2.2.1.trans (hB.mono (by have := K4.out.2.2.1.size; have := hsz4.out; omega)), hd⟩)
          have hgw7 : w.heap.size + 1 < g := by have := hsz4.out; omega

          clear hO hB hgr hd
          refine hK' _ _ K7.out.1 ?_
          clear hK' K'
          go_simp
          refine wpAnyH_from (fuel := 2) 6 1 (fun _ _ _ _ _ h => h) (by kernel_rfl) (by decide) (by kernel_rfl) K7.out.1 ?_
          simp only [List.drop_succ_cons, List.drop_zero, List.take_succ_cons, List.take_zero]
          refine wpHeld_cons (.agg #[.slice (some ⟨g, 0, none⟩) sn cap, .slice none 0 0, .int .i64 lf, .bool false]) (by kernel_rfl) ?_ ?_
          · intro w' s
            try go_simp
          refine wpHeld_nil ?_
          go_simp
          refine wpAnyH_one (i := 7) (by kernel_rfl) rfl (by kernel_rfl) (fun K' hK' => ?_)
          go_simp
          have K8 := Lib.hid (show _ ∧ _ ∧ _ ∧ _ ∧ _ from ⟨blk_alloc K7.out.1 (.cells #[.slice none 0 0, .slice none 0 0, .int .i64 0, .bool false] 25), blk_alloc K7.out.2.1 (.cells #[.slice none 0 0, .slice none 0 0, .int .i64 0, .bool false] 25), K7.out.2.2.1.alloc K7.out.2.2.1.size (.cells #[.slice none 0 0, .slice none 0 0, .int .i64 0, .bool false] 25), K7.out.2.2.2.alloc (.cells #[.slice none 0 0, .slice none 0 0, .int .i64 0, .bool false] 25), blk_new V7 (.cells #[.slice none 0 0, .slice none 0 0, .int .i64 0, .bool false] 25)⟩)
          have hsz8 := Lib.hid (show (V7.alloc (.cells #[.slice none 0 0, .slice none 0 0, .int .i64 0, .bool false] 25)).heap.size = V7.heap.size + 1 by simp)
          have hgl8 := K7.out.2.2.2.lt
          generalize V7.alloc (.cells #[.slice none 0 0, .slice none 0 0, .int .i64 0, .bool false] 25) = V8 at *
          refine hK' _ _ K8.out.1 ?_
          clear hK' K'
          go_simp
          have hnz : V7.heap.size ≠ g := by have := hsz4.out; have := hsz8.out; omega
          have z0 := blk_cell K8.out.2.2.2.2 0
          have z1 := blk_cell K8.out.2.2.2.2 1
          have z2 := blk_cell K8.out.2.2.2.2 2
          have z3 := blk_cell K8.out.2.2.2.2 3
          have f0 := blk_free K8.out.2.2.2.2 0
          have f1 := blk_free K8.out.2.2.2.2 1
          have f2 := blk_free K8.out.2.2.2.2 2
          have f3 := blk_free K8.out.2.2.2.2 3
          refine wpAnyH_one (i := 8) (by kernel_rfl) rfl (by kernel_rfl) (fun K' hK' => ?_)
          go_simp
          have hx9 := cell4_other (u0 := .slice (some ⟨g, 0, none⟩) sn cap) (u1 := .slice none 0 0) (u2 := .int .i64 lf) (u3 := .bool false) K8.out.1 (show w.heap.size ≠ V7.heap.size by have := hsz4.out; have := hsz8.out; omega)
          have HF := Lib.hid (show _ ∧ _ ∧ _ ∧ _ ∧ _ from ⟨cell4_set (u0 := .slice (some ⟨g, 0, none⟩) sn cap) (u1 := .slice none 0 0) (u2 := .int .i64 lf) (u3 := .bool false) K8.out.2.2.2.2, K8.out.2.2.2.1.other (cell4_keep (u0 := .slice (some ⟨g, 0, none⟩) sn cap) (u1 := .slice none 0 0) (u2 := .int .i64 lf) (u3 := .bool false) (Ne.symm hnz)), hx9, cell4_other (u0 := .slice (some ⟨g, 0, none⟩) sn cap) (u1 := .slice none 0 0) (u2 := .int .i64 lf) (u3 := .bool false) K8.out.2.1 (show w.heap.size + 1 ≠ V7.heap.size by have := hsz4.out; have := hsz8.out; omega), cell4_below (u0 := .slice (some ⟨g, 0, none⟩) sn cap) (u1 := .slice none 0 0) (u2 := .int .i64 lf) (u3 := .bool false) (show w.heap.size ≤ V7.heap.size by have := hsz4.out; have := hsz8.out; omega) K8.out.2.2.1⟩)
          refine hK' _ _ hx9 ?_
          clear hK' K' z0 z1 z2 z3 f0 f1 f2 f3 hx9
          refine wpAnyH_done (by kernel_rfl) ?_ _
          refine NoPanic.normal ?_
          go_simp
          go_wp2_with fail
          go_meet
          case rel => exact ⟨_, g, cap, rfl, HF, by have := hsz4.out; have := hsz8.out; omega, by have := hsz4.out; have := hsz8.out; omega, hnz, hcap⟩
        · go_simp
          have K5 := Lib.hid (show _ ∧ _ ∧ _ ∧ Hds _ _ _ [] ∧ _ from ⟨blk_alloc K4.out.1 (.cells #[.slice none 0 0, .slice none 0 0, .int .i64 0, .bool false] 25), blk_alloc K4.out.2.1 (.cells #[.slice none 0 0, .slice none 0 0, .int .i64 0, .bool false] 25), K4.out.2.2.1.alloc K4.out.2.2.1.size (.cells #[.slice none 0 0, .slice none 0 0, .int .i64 0, .bool false] 25), K4.out.2.2.2.alloc (.cells #[.slice none 0 0, .slice none 0 0, .int .i64 0, .bool false] 25), blk_new V4 (.cells #[.slice none 0 0, .slice none 0 0, .int .i64 0, .bool false] 25)⟩)
          have hsz5 := Lib.hid (show (V4.alloc (.cells #[.slice none 0 0, .slice none 0 0, .int .i64 0, .bool false] 25)).heap.size = V4.heap.size + 1 by simp)

          generalize V4.alloc (.cells #[.slice none 0 0, .slice none 0 0, .int .i64 0, .bool false] 25) = V5 at *
          refine hK' _ _ K5.out.1 ?_
          clear hK' K'
          go_simp
          refine wpAnyH_one (i := 3) (by kernel_rfl) rfl (by kernel_rfl) (fun K' hK' => ?_)
          refine wp_append_hrow (.tmp 32) (.tmp 34) rfl W2d.heap.size (.slice (some ⟨W2d.heap.size, 0, none⟩) 0 0) [] rfl (K5.out.2.2.2.1) sa sb so sn sc S rfl (by have q := HH.out.1.below K5.out.2.2.1 (Nat.le_refl _); exact ⟨q.len, q.adr, q.old, q.cel⟩) hsc (by simp; omega) (by have := hsz4.out; have := hsz5.out; omega) ?_
          intro v3 V6 hO hB hgr
          rw [List.nil_append] at hO
          obtain ⟨g, cap, rfl, hg, hcap, hd⟩ := hdb_of hO HH.out.1.len hs1
          have hzb6 := (hgr.block V4.heap.size (blk_lt K5.out.2.2.2.2) (fun q => by have q' : V4.heap.size = W2d.heap.size := Option.some.inj q; have := hsz4.out; have := hsz5.out; omega)).trans K5.out.2.2.2.2
          have hne6 : V4.heap.size ≠ g := hdb_ne hzb6 hO
          have K6 := Lib.hid (show _ ∧ _ ∧ _ ∧ _ ∧ _ from ⟨blk_below K5.out.1 hB (by have := hsz4.out; have := hsz5.out; omega), blk_below K5.out.2.1 hB (by have := hsz4.out; have := hsz5.out; omega), K5.out.2.2.1.trans (hB.mono (by have := K5.out.2.2.1.size; have := hsz4.out; have := hsz5.out; omega)), hd, hzb6⟩)
          have hgw6 : w.heap.size + 1 < g := by have := hsz4.out; have := hsz5.out; omega
          clear hzb6
          clear hO hB hgr hd
          refine hK' _ _ K6.out.1 ?_
          clear hK' K'
          go_simp
          refine wpAnyH_from (fuel := 1) 6 1 (fun _ _ _ _ _ h => h) (by kernel_rfl) (by decide) (by kernel_rfl) K6.out.1 ?_
          simp only [List.drop_succ_cons, List.drop_zero, List.take_succ_cons, List.take_zero]
          refine wpHeld_cons (.agg #[.slice (some ⟨g, 0, none⟩) sn cap, .slice none 0 0, .int .i64 lf, .bool false]) (by kernel_rfl) ?_ ?_
          · intro w' s
            try go_simp
          refine wpHeld_nil ?_
          go_simp
          have hnz : V4.heap.size ≠ g := by have := hsz4.out; have := hsz5.out; omega
          have z0 := blk_cell K6.out.2.2.2.2 0
          have z1 := blk_cell K6.out.2.2.2.2 1
          have z2 := blk_cell K6.out.2.2.2.2 2
          have z3 := blk_cell K6.out.2.2.2.2 3
          have f0 := blk_free K6.out.2.2.2.2 0
          have f1 := blk_free K6.out.2.2.2.2 1
          have f2 := blk_free K6.out.2.2.2.2 2
          have f3 := blk_free K6.out.2.2.2.2 3
          refine wpAnyH_one (i := 8) (by kernel_rfl) rfl (by kernel_rfl) (fun K' hK' => ?_)
          go_simp
          have hx9 := cell4_other (u0 := .slice (some ⟨g, 0, none⟩) sn cap) (u1 := .slice none 0 0) (u2 := .int .i64 lf) (u3 := .bool false) K6.out.1 (show w.heap.size ≠ V4.heap.size by have := hsz4.out; have := hsz5.out; omega)
          have HF := Lib.hid (show _ ∧ _ ∧ _ ∧ _ ∧ _ from ⟨cell4_set (u0 := .slice (some ⟨g, 0, none⟩) sn cap) (u1 := .slice none 0 0) (u2 := .int .i64 lf) (u3 := .bool false) K6.out.2.2.2.2, K6.out.2.2.2.1.other (cell4_keep (u0 := .slice (some ⟨g, 0, none⟩) sn cap) (u1 := .slice none 0 0) (u2 := .int .i64 lf) (u3 := .bool false) (Ne.symm hnz)), hx9, cell4_other (u0 := .slice (some ⟨g, 0, none⟩) sn cap) (u1 := .slice none 0 0) (u2 := .int .i64 lf) (u3 := .bool false) K6.out.2.1 (show w.heap.size + 1 ≠ V4.heap.size by have := hsz4.out; have := hsz5.out; omega), cell4_below (u0 := .slice (some ⟨g, 0, none⟩) sn cap) (u1 := .slice none 0 0) (u2 := .int .i64 lf) (u3 := .bool false) (show w.heap.size ≤ V4.heap.size by have := hsz4.out; have := hsz5.out; omega) K6.out.2.2.1⟩)
          refine hK' _ _ hx9 ?_
          clear hK' K' z0 z1 z2 z3 f0 f1 f2 f3 hx9
          refine wpAnyH_done (by kernel_rfl) ?_ _
          refine NoPanic.normal ?_
          go_simp
          go_wp2_with fail
          go_meet
          case rel => exact ⟨_, g, cap, rfl, HF, by have := hsz4.out; have := hsz5.out; omega, by have := hsz4.out; have := hsz5.out; omega, hnz, hcap⟩
      · go_simp
        have K1 := Lib.hid (show _ ∧ _ ∧ _ ∧ _ from ⟨blk_alloc H3.out.1 (.cells #[.slice none 0 0, .slice none 0 0, .int .i64 0, .bool false] 25), blk_alloc H3.out.2.1 (.cells #[.slice none 0 0, .slice none 0 0, .int .i64 0, .bool false] 25), H3.out.2.2.alloc H3.out.2.2.size (.cells #[.slice none 0 0, .slice none 0 0, .int .i64 0, .bool false] 25), blk_new W2d (.cells #[.slice none 0 0, .slice none 0 0, .int .i64 0, .bool false] 25)⟩)
        have hsz1 := Lib.hid (show (W2d.alloc (.cells #[.slice none 0 0, .slice none 0 0, .int .i64 0, .bool false] 25)).heap.size = W2d.heap.size + 1 by simp)

        generalize W2d.alloc (.cells #[.slice none 0 0, .slice none 0 0, .int .i64 0, .bool false] 25) = V1 at *
        refine hK' _ _ K1.out.1 ?_
        clear hK' K'
        go_simp
        refine wpAnyH_one (i := 0) (by kernel_rfl) rfl (by kernel_rfl) (fun K' hK' => ?_)
        go_simp
        have K2 := Lib.hid (show _ ∧ _ ∧ _ ∧ Hds _ _ _ [] ∧ _ from ⟨blk_alloc K1.out.1 (.cells #[] 35), blk_alloc K1.out.2.1 (.cells #[] 35), K1.out.2.2.1.alloc K1.out.2.2.1.size (.cells #[] 35), Hds.empty' V1, blk_alloc K1.out.2.2.2 (.cells #[] 35)⟩)
        have hsz2 := Lib.hid (show (V1.alloc (.cells #[] 35)).heap.size = V1.heap.size + 1 by simp)
        generalize V1.alloc (.cells #[] 35) = V2 at *
        refine hK' _ _ K2.out.1 ?_
        clear hK' K'
        go_simp
        refine wpAnyH_one (i := 3) (by kernel_rfl) rfl (by kernel_rfl) (fun K' hK' => ?_)
        refine wp_append_hrow (.tmp 32) (.tmp 34) rfl V1.heap.size (.slice (some ⟨V1.heap.size, 0, none⟩) 0 0) [] rfl (K2.out.2.2.2.1) sa sb so sn sc S rfl (by have q := HH.out.1.below K2.out.2.2.1 (Nat.le_refl _); exact ⟨q.len, q.adr, q.old, q.cel⟩) hsc (by simp; omega) (by have := hsz1.out; have := hsz2.out; omega) ?_
        intro v3 V3 hO hB hgr
        rw [List.nil_append] at hO
        obtain ⟨g, cap, rfl, hg, hcap, hd⟩ := hdb_of hO HH.out.1.len hs1
        have hzb3 := (hgr.block W2d.heap.size (blk_lt K2.out.2.2.2.2) (fun q => by have q' : W2d.heap.size = V1.heap.size := Option.some.inj q; have := hsz1.out; have := hsz2.out; omega)).trans K2.out.2.2.2.2
        have hne3 : W2d.heap.size ≠ g := hdb_ne hzb3 hO
        have K3 := Lib.hid (show _ ∧ _ ∧ _ ∧ _ ∧ _ from ⟨blk_below K2.out.1 hB (by have := hsz1.out; have := hsz2.out; omega), blk_below K2.out.2.1 hB (by have := hsz1.out; have := hsz2.out; omega), K2.out.2.2.1.trans (hB.mono (by have := K2.out.2.2.1.size; have := hsz1.out; have := hsz2.out; omega)), hd, hzb3⟩)
        have hgw3 : w.heap.size + 1 < g := by have := hsz1.out; have := hsz2.out; omega
        clear hzb3
        clear hO hB hgr hd
        refine hK' _ _ K3.out.1 ?_
        clear hK' K'
        go_simp
        refine wpAnyH_from (fuel := 1) 6 1 (fun _ _ _ _ _ h => h) (by kernel_rfl) (by decide) (by kernel_rfl) K3.out.1 ?_
        simp only [List.drop_succ_cons, List.drop_zero, List.take_succ_cons, List.take_zero]
        refine wpHeld_cons (.agg #[.slice (some ⟨g, 0, none⟩) sn cap, .slice none 0 0, .int .i64 lf, .bool false]) (by kernel_rfl) ?_ ?_
        · intro w' s
          try go_simp
        refine wpHeld_nil ?_
        go_simp
        have hnz : W2d.heap.size ≠ g := by have := hsz1.out; have := hsz2.out; omega
        have z0 := blk_cell K3.out.2.2.2.2 0
        have z1 := blk_cell K3.out.2.2.2.2 1
        have z2 := blk_cell K3.out.2.2.2.2 2
        have z3 := blk_cell K3.out.2.2.2.2 3
        have f0 := blk_free K3.out.2.2.2.2 0
        have f1 := blk_free K3.out.2.2.2.2 1
        have f2 := blk_free K3.out.2.2.2.2 2
        have f3 := blk_free K3.out.2.2.2.2 3
        refine wpAnyH_one (i := 8) (by kernel_rfl) rfl (by kernel_rfl) (fun K' hK' => ?_)
        go_simp
        have hx9 := cell4_other (u0 := .slice (some ⟨g, 0, none⟩) sn cap) (u1 := .slice none 0 0) (u2 := .int .i64 lf) (u3 := .bool false) K3.out.1 (show w.heap.size ≠ W2d.heap.size by have := hsz1.out; have := hsz2.out; omega)
        have HF := Lib.hid (show _ ∧ _ ∧ _ ∧ _ ∧ _ from ⟨cell4_set (u0 := .slice (some ⟨g, 0, none⟩) sn cap) (u1 := .slice none 0 0) (u2 := .int .i64 lf) (u3 := .bool false) K3.out.2.2.2.2, K3.out.2.2.2.1.other (cell4_keep (u0 := .slice (some ⟨g, 0, none⟩) sn cap) (u1 := .slice none 0 0) (u2 := .int .i64 lf) (u3 := .bool false) (Ne.symm hnz)), hx9, cell4_other (u0 := .slice (some ⟨g, 0, none⟩) sn cap) (u1 := .slice none 0 0) (u2 := .int .i64 lf) (u3 := .bool false) K3.out.2.1 (show w.heap.size + 1 ≠ W2d.heap.size by have := hsz1.out; have := hsz2.out; omega), cell4_below (u0 := .slice (some ⟨g, 0, none⟩) sn cap) (u1 := .slice none 0 0) (u2 := .int .i64 lf) (u3 := .bool false) (show w.heap.size ≤ W2d.heap.size by have := hsz1.out; have := hsz2.out; omega) K3.out.2.2.1⟩)
        refine hK' _ _ hx9 ?_
        clear hK' K' z0 z1 z2 z3 f0 f1 f2 f3 hx9
        refine wpAnyH_done (by kernel_rfl) ?_ _
        refine NoPanic.normal ?_
        go_simp
        go_wp2_with fail
        go_meet
        case rel => exact ⟨_, g, cap, rfl, HF, by have := hsz1.out; have := hsz2.out; omega, by have := hsz1.out; have := hsz2.out; omega, hnz, hcap⟩
    case rest =>
      obtain ⟨b6, g, cap, rfl, HC6, hb6, hg6, hbg, hcap⟩ := hcut
      clear H2 hlt hlz
      go_wp2_with fail
      go_loopw [7] (fun v wr => ∃ k : Nat, k ≤ pn ∧ v = .int .i64 k ∧ Hid (wr.heap[b6]? = some (.cells #[.slice (some ⟨g, 0, none⟩) sn cap, .slice none 0 0, .int .i64 lf, .bool false] 25 (0, 0)) ∧ HdB wr g sn (perfK S P k) ∧ wr.heap[w.heap.size]? = some (.cells #[.slice sa sn sc, .slice pa pn pc, .int .i64 lf, .bool false] 25 (0, 0)) ∧ wr.heap[w.heap.size + 1]? = some (.cells #[.slice none 0 0, .slice none 0 0, .int .i64 0, .bool false] 25 (0, 0)) ∧ Below w.heap.size w wr)) (fun v _ => pn - (intOf v).toNat)
      case atStart => exact ⟨0, Nat.zero_le _, rfl, HC6⟩
      case round =>
        obtain ⟨k, hk, rfl, HQ⟩ := hrel
        by_cases hkm : k < pn
        · have j1 : (k : Int) < (pn : Int) := by omega
          have j2 : ¬ (k : Int) < 0 := by omega
          have hkp : k < pn := by omega
          have j3 : (k : Int) < (pn : Int) := by omega
          have u1 : IntKind.i64.wrap ((k : Int) + 1) = ((k + 1 : Nat) : Int) := (wrap_id (by omega)).trans (by omega)
          obtain rfl := HH.out.2.adr (by omega)
          have hwr := wr_ok HV.out (k := k) (by have := HH.out.2.len; omega)
          rw [HH.out.1.len] at hwr
          obtain ⟨t, ht⟩ := Int.eq_ofNat_of_zero_le hwr.1
          have hts : t < sn := by omega
          have j4 : (t : Int) < (sn : Int) := by omega
          have j5 : ¬ (t : Int) < 0 := by omega
          have hpo := HH.out.2.old (by omega)
          have a0 := (HQ.out.2.2.2.2.cell (p := ⟨pb, po + k * 2, none⟩) hpo).trans (HH.out.2.at_ k hkp)
          have a1 := (HQ.out.2.2.2.2.cell (p := ⟨pb, po + k * 2 + 1, none⟩) hpo).trans (HH.out.2.cel k hkp)
          rw [ht] at a0
          have hpk : perfK S P (k + 1) = (perfK S P k).set t (nW P k).2 := by rw [perfK, ht]; rfl
          obtain ⟨N, hN⟩ : ∃ N : Sl, N = (nW P k).2 := ⟨_, rfl⟩
          rw [← hN] at a1 hpk
          unfold slV at a1
          have HK := Lib.hid (show _ ∧ _ ∧ _ ∧ _ from ⟨hkm, hts, hpk, hpo⟩)
          have HA := Lib.hid (And.intro a0 a1)
          clear hwr ht hN hkm hk hts hpk hpo a0 a1
          go_wp2_with fail
          refine wp_region_from 0 15 (fun w' => w'.heap[b6]? = some (.cells #[.slice (some ⟨g, 0, none⟩) sn cap, .slice none 0 0, .int .i64 lf, .bool false] 25 (0, 0)) ∧ w'.heap[w.heap.size]? = some (.cells #[.slice sa sn sc, .slice (some ⟨pb, po, none⟩) pn pc, .int .i64 lf, .bool false] 25 (0, 0)) ∧ w'.cell? ⟨pb, po + k * 2, none⟩ = some (.int .i64 (t : Int)) ∧ w'.cell? ⟨pb, po + k * 2 + 1, none⟩ = some (.slice N.1 N.2.2.length N.2.1)) (by kernel_rfl) (by kernel_rfl) (by decide) (by kernel_rfl) ⟨HQ.out.1, HQ.out.2.2.1, HA.out.1, HA.out.2⟩ ?_
          simp only [List.drop_zero, List.take_succ_cons, List.take_zero]
          refine wpHeld_cons (.pointer (some ⟨b6, 0, none⟩)) (by kernel_rfl) ?_ ?_
          · rintro w' ⟨s1, s2, s3, s4⟩
            try go_simp
          refine wpHeld_cons (.slice (some ⟨g, 0, none⟩) sn cap) (by kernel_rfl) ?_ ?_
          · rintro w' ⟨s1, s2, s3, s4⟩
            have y0 := blk_cell s1 0
            simp at y0
            try go_simp
          refine wpHeld_cons (.pointer (some ⟨w.heap.size, 1, none⟩)) (by kernel_rfl) ?_ ?_
          · rintro w' ⟨s1, s2, s3, s4⟩
            try go_simp
          refine wpHeld_cons (.slice (some ⟨pb, po, none⟩) pn pc) (by kernel_rfl) ?_ ?_
          · rintro w' ⟨s1, s2, s3, s4⟩
            have y1 := blk_cell s2 1
            simp at y1
            try go_simp
          refine wpHeld_cons (.int .i64 (k : Int)) (by kernel_rfl) ?_ ?_
          · rintro w' ⟨s1, s2, s3, s4⟩
            try go_simp
          refine wpHeld_cons (.pointer (some ⟨pb, po + k * 2, none⟩)) (by kernel_rfl) ?_ ?_
          · rintro w' ⟨s1, s2, s3, s4⟩
            try go_simp
          refine wpHeld_cons (.pointer (some ⟨pb, po + k * 2, none⟩)) (by kernel_rfl) ?_ ?_
          · rintro w' ⟨s1, s2, s3, s4⟩
            try go_simp
          refine wpHeld_cons (.int .i64 (t : Int)) (by kernel_rfl) ?_ ?_
          · rintro w' ⟨s1, s2, s3, s4⟩
            try go_simp
          refine wpHeld_cons (.pointer (some ⟨w.heap.size, 1, none⟩)) (by kernel_rfl) ?_ ?_
          · rintro w' ⟨s1, s2, s3, s4⟩
            try go_simp
          refine wpHeld_cons (.slice (some ⟨pb, po, none⟩) pn pc) (by kernel_rfl) ?_ ?_
          · rintro w' ⟨s1, s2, s3, s4⟩
            have y1 := blk_cell s2 1
            simp at y1
            try go_simp
          refine wpHeld_cons (.int .i64 (k : Int)) (by kernel_rfl) ?_ ?_
          · rintro w' ⟨s1, s2, s3, s4⟩
            try go_simp
          refine wpHeld_cons (.pointer (some ⟨pb, po + k * 2, none⟩)) (by kernel_rfl) ?_ ?_
          · rintro w' ⟨s1, s2, s3, s4⟩
            try go_simp
          refine wpHeld_cons (.pointer (some ⟨pb, po + k * 2 + 1, none⟩)) (by kernel_rfl) ?_ ?_
          · rintro w' ⟨s1, s2, s3, s4⟩
            try go_simp
          refine wpHeld_cons (.slice N.1 N.2.2.length N.2.1) (by kernel_rfl) ?_ ?_
          · rintro w' ⟨s1, s2, s3, s4⟩
            try go_simp
          refine wpHeld_cons (.pointer (some ⟨g, t, none⟩)) (by kernel_rfl) ?_ ?_
          · rintro w' ⟨s1, s2, s3, s4⟩
            try go_simp
          refine wpHeld_nil ?_
          go_simp
          refine wpAnyH_one (i := 15) (by kernel_rfl) rfl (by kernel_rfl) (fun K' hK' => ?_)
          obtain ⟨wd, hwd⟩ : ∃ wd, wd = wr.drew := ⟨_, rfl⟩
          have HD := Lib.hid (show wr.drew.heap[b6]? = some (.cells #[.slice (some ⟨g, 0, none⟩) sn cap, .slice none 0 0, .int .i64 lf, .bool false] 25 (0, 0)) ∧ HdB wr.drew g sn (perfK S P k) ∧ wr.drew.heap[w.heap.size]? = some (.cells #[.slice sa sn sc, .slice (some ⟨pb, po, none⟩) pn pc, .int .i64 lf, .bool false] 25 (0, 0)) ∧ wr.drew.heap[w.heap.size + 1]? = some (.cells #[.slice none 0 0, .slice none 0 0, .int .i64 0, .bool false] 25 (0, 0)) ∧ Below w.heap.size w wr.drew from ⟨HQ.out.1, HQ.out.2.1.other rfl, HQ.out.2.2.1, HQ.out.2.2.2.1, HQ.out.2.2.2.2.drew⟩)
          have HA' := Lib.hid (show wr.drew.cell? ⟨pb, po + k * 2, none⟩ = some (.int .i64 (t : Int)) ∧ wr.drew.cell? ⟨pb, po + k * 2 + 1, none⟩ = some (.slice N.1 N.2.2.length N.2.1) from ⟨HA.out.1, HA.out.2⟩)
          rw [← hwd] at HD HA' ⊢
          clear hwd HA HQ
          have c0 := HD.out.2.1.cell HK.out.2.1
          have k0 := HD.out.2.1.free t
          unfold slV at c0
          go_simp
          have hne : pb ≠ g := by have := HK.out.2.2.2; omega
          have hb7 := (Below.heap_setCell wd ⟨g, t, none⟩ (.slice N.1 N.2.2.length N.2.1) b6 hbg).trans HD.out.1
          have hx7 := (Below.heap_setCell wd ⟨g, t, none⟩ (.slice N.1 N.2.2.length N.2.1) w.heap.size (show w.heap.size ≠ g by omega)).trans HD.out.2.2.1
          have HE := Lib.hid (show (wd.setCell ⟨g, t, none⟩ (.slice N.1 N.2.2.length N.2.1)).heap[b6]? = some (.cells #[.slice (some ⟨g, 0, none⟩) sn cap, .slice none 0 0, .int .i64 lf, .bool false] 25 (0, 0)) ∧ HdB (wd.setCell ⟨g, t, none⟩ (.slice N.1 N.2.2.length N.2.1)) g sn (perfK S P (k + 1)) ∧ (wd.setCell ⟨g, t, none⟩ (.slice N.1 N.2.2.length N.2.1)).heap[w.heap.size]? = some (.cells #[.slice sa sn sc, .slice (some ⟨pb, po, none⟩) pn pc, .int .i64 lf, .bool false] 25 (0, 0)) ∧ (wd.setCell ⟨g, t, none⟩ (.slice N.1 N.2.2.length N.2.1)).heap[w.heap.size + 1]? = some (.cells #[.slice none 0 0, .slice none 0 0, .int .i64 0, .bool false] 25 (0, 0)) ∧ Below w.heap.size w (wd.setCell ⟨g, t, none⟩ (.slice N.1 N.2.2.length N.2.1)) from ⟨hb7, by rw [HK.out.2.2.1]; exact HD.out.2.1.set HK.out.2.1, hx7, (Below.heap_setCell wd ⟨g, t, none⟩ (.slice N.1 N.2.2.length N.2.1) (w.heap.size + 1) (show w.heap.size + 1 ≠ g by omega)).trans HD.out.2.2.2.1, HD.out.2.2.2.2.setCell (p := ⟨g, t, none⟩) (show w.heap.size ≤ g by omega) _⟩)
          refine hK' _ _ ⟨hb7, hx7, by unfold World.cell?; rw [Below.heap_setCell wd ⟨g, t, none⟩ _ pb hne]; exact HA'.out.1, by unfold World.cell?; rw [Below.heap_setCell wd ⟨g, t, none⟩ _ pb hne]; exact HA'.out.2⟩ ?_
          clear hK' K' hb7 hx7 c0 k0 HD HA'
          generalize wd.setCell ⟨g, t, none⟩ (.slice N.1 N.2.2.length N.2.1) = We at *
          refine wpAnyH_done (by kernel_rfl) ?_ _
          refine NoPanic.normal ?_
          go_simp
          go_wp2_with fail
          go_roundw
          case rel => exact ⟨k + 1, HK.out.1, by go_num, HE⟩
          case measure => have := HK.out.1; simp [intOf]; omega
        · obtain rfl : k = pn := by omega
          have j1 : ¬ (k : Int) < (k : Int) := by omega
          have y0 := blk_cell HQ.out.1 0
          have y1 := blk_cell HQ.out.1 1
          have y2 := blk_cell HQ.out.1 2
          have y3 := blk_cell HQ.out.1 3
          have z0 := blk_cell HQ.out.2.2.2.1 0
          have z1 := blk_cell HQ.out.2.2.2.1 1
          have z2 := blk_cell HQ.out.2.2.2.1 2
          have z3 := blk_cell HQ.out.2.2.2.1 3
          have f0 := blk_free HQ.out.2.2.2.1 0
          have f1 := blk_free HQ.out.2.2.2.1 1
          have f2 := blk_free HQ.out.2.2.2.1 2
          have f3 := blk_free HQ.out.2.2.2.1 3
          have e2 : IntKind.i64.wrap (lf - (k : Int)) = lf - (k : Int) := wrap_id (by omega)
          have g2 := blk_free HQ.out.1 2
          go_upto_region 20 with fail
          have HS := Lib.hid (show (wr.setCell ⟨b6, 2, none⟩ (.int .i64 (lf - (k : Int)))).heap[b6]? = some (.cells #[.slice (some ⟨g, 0, none⟩) sn cap, .slice none 0 0, .int .i64 (lf - (k : Int)), .bool false] 25 (0, 0)) ∧ HdB (wr.setCell ⟨b6, 2, none⟩ (.int .i64 (lf - (k : Int)))) g sn (perfK S P k) ∧ True ∧ (wr.setCell ⟨b6, 2, none⟩ (.int .i64 (lf - (k : Int)))).heap[w.heap.size + 1]? = some (.cells #[.slice none 0 0, .slice none 0 0, .int .i64 0, .bool false] 25 (0, 0)) ∧ Below w.heap.size w (wr.setCell ⟨b6, 2, none⟩ (.int .i64 (lf - (k : Int)))) from ⟨cells_setU HQ.out.1, HQ.out.2.1.other (Below.heap_setCell wr ⟨b6, 2, none⟩ _ g (Ne.symm hbg)), trivial, (Below.heap_setCell wr ⟨b6, 2, none⟩ _ (w.heap.size + 1) (show w.heap.size + 1 ≠ b6 by omega)).trans HQ.out.2.2.2.1, HQ.out.2.2.2.2.setCell (p := ⟨b6, 2, none⟩) (show w.heap.size ≤ b6 by omega) _⟩)
          generalize (wr.setCell ⟨b6, 2, none⟩ (.int .i64 (lf - (k : Int)))) = WS at *
          clear y0 y1 y2 y3 z0 z1 z2 z3 f0 f1 f2 f3 g2
          have y0 := blk_cell HS.out.1 0
          have y1 := blk_cell HS.out.1 1
          have y2 := blk_cell HS.out.1 2
          have y3 := blk_cell HS.out.1 3
          have z0 := blk_cell HS.out.2.2.2.1 0
          have z1 := blk_cell HS.out.2.2.2.1 1
          have z2 := blk_cell HS.out.2.2.2.1 2
          have z3 := blk_cell HS.out.2.2.2.1 3
          have f0 := blk_free HS.out.2.2.2.1 0
          have f1 := blk_free HS.out.2.2.2.1 1
          have f2 := blk_free HS.out.2.2.2.1 2
          have f3 := blk_free HS.out.2.2.2.1 3
          go_wp2
          have hbF := cell4_below (u0 := .slice (some ⟨g, 0, none⟩) sn cap) (u1 := .slice none 0 0) (u2 := .int .i64 (lf - (k : Int))) (u3 := .bool false) (show w.heap.size ≤ w.heap.size + 1 by omega) HS.out.2.2.2.2
          have hdF := HS.out.2.1.other (cell4_keep (u0 := .slice (some ⟨g, 0, none⟩) sn cap) (u1 := .slice none 0 0) (u2 := .int .i64 (lf - (k : Int))) (u3 := .bool false) (show g ≠ w.heap.size + 1 by omega))
          refine bodyPost_ret (v := .tuple #[.agg #[.slice (some ⟨g, 0, none⟩) sn cap, .slice none 0 0, .int .i64 (lf - (k : Int)), .bool false], .int .i64 0]) ?_ rfl ⟨.inr (.inl ⟨HR.out, .inr HC.out.2, g, cap, hcap, by omega, secs_of_hdb hdF ?_, by rw [if_neg HC.out.1]⟩), hbF⟩
          · exact results_dk_tmp Try.results24 _ _ (w.heap.size + 1) 25 #[.slice (some ⟨g, 0, none⟩) sn cap, .slice none 0 0, .int .i64 (lf - (k : Int)), .bool false] (0, 0) rfl (cell4_set HS.out.2.2.2.1) (by kernel_rfl) _ rfl
          · exact fun i hi => perfK_row (SlR _) (fun i hi => (HH.out.1.row i (by have := HH.out.1.len; omega)).below hbF (Nat.le_refl _)) k (fun j hj => (HH.out.2.row j hj).below hbF (Nat.le_refl _)) i (by have := HH.out.1.len; omega)
  obtain ⟨m, rfl⟩ := Int.eq_ofNat_of_zero_le hl0
  have hm : m < pn := by omega
  have e3 : (m : Int) < (pn : Int) := by omega
  clear cA cB hl1 hl0
  have HC := Lib.hid hm
  go_upto_region 7 with fail
  clear x0 x1 x2 x3 z0 z1 z2 z3 f0 f1 f2 f3
  obtain ⟨W2d, hW2d⟩ : ∃ W2d, W2d = W2.drew := ⟨_, rfl⟩
  have H3 := Lib.hid (show W2.drew.heap[w.heap.size]? = some (.cells #[.slice sa sn sc, .slice pa pn pc, .int .i64 (m : Int), .bool false] 25 (0, 0)) ∧ W2.drew.heap[w.heap.size + 1]? = some (.cells #[.slice none 0 0, .slice none 0 0, .int .i64 0, .bool false] 25 (0, 0)) ∧ Below w.heap.size w W2.drew from ⟨H2.out.1, H2.out.2.1, H2.out.2.2.1.drew⟩)
  have hlt2 : w.heap.size + 1 < W2.drew.heap.size := H2.out.2.2.2.2
  go_cut [6] from 7 (fun p wx => ∃ b6 g cap, p = .pointer (some ⟨b6, 0, none⟩) ∧ Hid (wx.heap[b6]? = some (.cells #[.slice (some ⟨g, 0, none⟩) sn cap, .slice none 0 0, .int .i64 (m : Int), .bool false] 25 (0, 0)) ∧ HdB wx g sn S ∧ wx.heap[w.heap.size]? = some (.cells #[.slice sa sn sc, .slice pa pn pc, .int .i64 (m : Int), .bool false] 25 (0, 0)) ∧ wx.heap[w.heap.size + 1]? = some (.cells #[.slice none 0 0, .slice none 0 0, .int .i64 0, .bool false] 25 (0, 0)) ∧ Below w.heap.size w wx) ∧ w.heap.size + 1 < b6 ∧ w.heap.size + 1 < g ∧ b6 ≠ g ∧ sn ≤ cap)
  case first =>
    refine wp_region_from 0 0 (fun w' => w'.heap[w.heap.size]? = some (.cells #[.slice sa sn sc, .slice pa pn pc, .int .i64 (m : Int), .bool false] 25 (0, 0))) (by kernel_rfl) (by kernel_rfl) (by decide) (by kernel_rfl) H2.out.1 ?_
    simp only [List.drop_zero, List.take_zero]
    refine wpHeld_nil ?_
    rw [← hW2d]
    rw [← hW2d] at H3 hlt2
    clear hW2d H2 hlt hlz
    refine wpAnyH_from (fuel := 7) 1 2 (fun _ _ _ _ _ h => h) (by kernel_rfl) (by decide) (by kernel_rfl) H3.out.1 ?_
    simp only [List.drop_succ_cons, List.drop_zero, List.take_succ_cons, List.take_zero]
    refine wpHeld_cons (.pointer (some ⟨w.heap.size, 0, none⟩)) (by kernel_rfl) ?_ ?_
    · intro w' s
      try go_simp
    refine wpHeld_cons (.slice sa sn sc) (by kernel_rfl) ?_ ?_
    · intro w' s
      have y0 := blk_cell s 0
      simp at y0
      try go_simp
    refine wpHeld_nil ?_
    go_simp
    refine wpAnyH_from (fuel := 5) 4 2 (fun _ _ _ _ _ h => h) (by kernel_rfl) (by decide) (by kernel_rfl) H3.out.1 ?_
    simp only [List.drop_succ_cons, List.drop_zero, List.take_succ_cons, List.take_zero]
    refine wpHeld_cons (.pointer (some ⟨w.heap.size, 2, none⟩)) (by kernel_rfl) ?_ ?_
    · intro w' s
      try go_simp
    refine wpHeld_cons (.int .i64 (m : Int)) (by kernel_rfl) ?_ ?_
    · intro w' s
      have y0 := blk_cell s 2
      simp at y0
      try go_simp
    refine wpHeld_nil ?_
    go_simp
    refine wpAnyH_two (i := 0) (j := 7) (by kernel_rfl) rfl rfl (by kernel_rfl) (by kernel_rfl) (fun K' hK' => ?_) (fun K' hK' => ?_)
    · go_simp
      have K4 := Lib.hid (show _ ∧ _ ∧ _ ∧ Hds _ _ _ [] from ⟨blk_alloc H3.out.1 (.cells #[] 35), blk_alloc H3.out.2.1 (.cells #[] 35), H3.out.2.2.alloc H3.out.2.2.size (.cells #[] 35), Hds.empty' W2d⟩)
      have hsz4 := Lib.hid (show (W2d.alloc (.cells #[] 35)).heap.size = W2d.heap.size + 1 by simp)
      generalize W2d.alloc (.cells #[] 35) = V4 at *
      refine hK' _ _ K4.out.1 ?_
      clear hK' K'
      go_simp
      refine wpAnyH_two (i := 3) (j := 7) (by kernel_rfl) rfl rfl (by kernel_rfl) (by kernel_rfl) (fun K' hK' => ?_) (fun K' hK' => ?_)
      · refine wp_append_hrow (.tmp 32) (.tmp 34) rfl W2d.heap.size (.slice (some ⟨W2d.heap.size, 0, none⟩) 0 0) [] rfl (K4.out.2.2.2) sa sb so sn sc S rfl (by have q := HH.out.1.below K4.out.2.2.1 (Nat.le_refl _); exact ⟨q.len, q.adr, q.old, q.cel⟩) hsc (by simp; omega) (by have := hsz4.out; omega) ?_
        intro v3 V7 hO hB hgr
        rw [List.nil_append] at hO
        obtain ⟨g, cap, rfl, hg, hcap, hd⟩ := hdb_of hO HH.out.1.len hs1
        have K7 := Lib.hid (show _ ∧ _ ∧ _ ∧ _ from ⟨blk_below K4.out.1 hB (by have := hsz4.out; omega), blk_below K4.out.2.1 hB (by have := hsz4.out; omega), K4.out.2.2.1.trans (hB.mono (by have := K4.out.2.2.1.size; have := hsz4.out; omega)), hd⟩)
        have hgw7 : w.heap.size + 1 < g := by have := hsz4.out; omega

        clear hO hB hgr hd
        refine hK' _ _ K7.out.1 ?_
        clear hK' K'
        go_simp
        refine wpAnyH_from (fuel := 2) 6 1 (fun _ _ _ _ _ h => h) (by kernel_rfl) (by decide) (by kernel_rfl) K7.out.1 ?_
        simp only [List.drop_succ_cons, List.drop_zero, List.take_succ_cons, List.take_zero]
        refine wpHeld_cons (.agg #[.slice (some ⟨g, 0, none⟩) sn cap, .slice none 0 0, .int .i64 (m : Int), .bool false]) (by kernel_rfl) ?_ ?_
        · intro w' s
          try go_simp
        refine wpHeld_nil ?_
        go_simp
        refine wpAnyH_one (i := 7) (by kernel_rfl) rfl (by kernel_rfl) (fun K' hK' => ?_)
        go_simp
        have K8 := Lib.hid (show _ ∧ _ ∧ _ ∧ _ ∧ _ from ⟨blk_alloc K7.out.1 (.cells #[.slice none 0 0, .slice none 0 0, .int .i64 0, .bool false] 25), blk_alloc K7.out.2.1 (.cells #[.slice none 0 0, .slice none 0 0, .int .i64 0, .bool false] 25), K7.out.2.2.1.alloc K7.out.2.2.1.size (.cells #[.slice none 0 0, .slice none 0 0, .int .i64 0, .bool false] 25), K7.out.2.2.2.alloc (.cells #[.slice none 0 0, .slice none 0 0, .int .i64 0, .bool false] 25), blk_new V7 (.cells #[.slice none 0 0, .slice none 0 0, .int .i64 0, .bool false] 25)⟩)
        have hsz8 := Lib.hid (show (V7.alloc (.cells #[.slice none 0 0, .slice none 0 0, .int .i64 0, .bool false] 25)).heap.size = V7.heap.size + 1 by simp)
        have hgl8 := K7.out.2.2.2.lt
        generalize V7.alloc (.cells #[.slice none 0 0, .slice none 0 0, .int .i64 0, .bool false] 25) = V8 at *
        refine hK' _ _ K8.out.1 ?_
        clear hK' K'
        go_simp
        have hnz : V7.heap.size ≠ g := by have := hsz4.out; have := hsz8.out; omega
        have z0 := blk_cell K8.out.2.2.2.2 0
        have z1 := blk_cell K8.out.2.2.2.2 1
        have z2 := blk_cell K8.out.2.2.2.2 2
        have z3 := blk_cell K8.out.2.2.2.2 3
        have f0 := blk_free K8.out.2.2.2.2 0
        have f1 := blk_free K8.out.2.2.2.2 1
        have f2 := blk_free K8.out.2.2.2.2 2
        have f3 := blk_free K8.out.2.2.2.2 3
        refine wpAnyH_one (i := 8) (by kernel_rfl) rfl (by kernel_rfl) (fun K' hK' => ?_)
        go_simp
        have hx9 := cell4_other (u0 := .slice (some ⟨g, 0, none⟩) sn cap) (u1 := .slice none 0 0) (u2 := .int .i64 (m : Int)) (u3 := .bool false) K8.out.1 (show w.heap.size ≠ V7.heap.size by have := hsz4.out; have := hsz8.out; omega)
        have HF := Lib.hid (show _ ∧ _ ∧ _ ∧ _ ∧ _ from ⟨cell4_set (u0 := .slice (some ⟨g, 0, none⟩) sn cap) (u1 := .slice none 0 0) (u2 := .int .i64 (m : Int)) (u3 := .bool false) K8.out.2.2.2.2, K8.out.2.2.2.1.other (cell4_keep (u0 := .slice (some ⟨g, 0, none⟩) sn cap) (u1 := .slice none 0 0) (u2 := .int .i64 (m : Int)) (u3 := .bool false) (Ne.symm hnz)), hx9, cell4_other (u0 := .slice (some ⟨g, 0, none⟩) sn cap) (u1 := .slice none 0 0) (u2 := .int .i64 (m : Int)) (u3 := .bool false) K8.out.2.1 (show w.heap.size + 1 ≠ V7.heap.size by have := hsz4.out; have := hsz8.out; omega), cell4_below (u0 := .slice (some ⟨g, 0, none⟩) sn cap) (u1 := .slice none 0 0) (u2 := .int .i64 (m : Int)) (u3 := .bool false) (show w.heap.size ≤ V7.heap.size by have := hsz4.out; have := hsz8.out; omega) K8.out.2.2.1⟩)
        refine hK' _ _ hx9 ?_
        clear hK' K' z0 z1 z2 z3 f0 f1 f2 f3 hx9
        refine wpAnyH_done (by kernel_rfl) ?_ _
        refine NoPanic.normal ?_
        go_simp
        go_wp2_with fail
        go_meet
        case rel => exact ⟨_, g, cap, rfl, HF, by have := hsz4.out; have := hsz8.out; omega, by have := hsz4.out; have := hsz8.out; omega, hnz, hcap⟩
      · go_simp
        have K5 := Lib.hid (show _ ∧ _ ∧ _ ∧ Hds _ _ _ [] ∧ _ from ⟨blk_alloc K4.out.1 (.cells #[.slice none 0 0, .slice none 0 0, .int .i64 0, .bool false] 25), blk_alloc K4.out.2.1 (.cells #[.slice none 0 0, .slice none 0 0, .int .i64 0, .bool false] 25), K4.out.2.2.1.alloc K4.out.2.2.1.size (.cells #[.slice none 0 0, .slice none 0 0, .int .i64 0, .bool false] 25), K4.out.2.2.2.alloc (.cells #[.slice none 0 0, .slice none 0 0, .int .i64 0, .bool false] 25), blk_new V4 (.cells #[.slice none 0 0, .slice none 0 0, .int .i64 0, .bool false] 25)⟩)
        have hsz5 := Lib.hid (show (V4.alloc (.cells #[.slice none 0 0, .slice none 0 0, .int .i64 0, .bool false] 25)).heap.size = V4.heap.size + 1 by simp)

        generalize V4.alloc (.cells #[.slice none 0 0, .slice none 0 0, .int .i64 0, .bool false] 25) = V5 at *
        refine hK' _ _ K5.out.1 ?_
        clear hK' K'
        go_simp
        refine wpAnyH_one (i := 3) (by kernel_rfl) rfl (by kernel_rfl) (fun K' hK' => ?_)
        refine wp_append_hrow (.tmp 32) (.tmp 34) rfl W2d.heap.size (.slice (some ⟨W2d.heap.size, 0, none⟩) 0 0) [] rfl (K5.out.2.2.2.1) sa sb so sn sc S rfl (by have q := HH.out.1.below K5.out.2.2.1 (Nat.le_refl _); exact ⟨q.len, q.adr, q.old, q.cel⟩) hsc (by simp; omega) (by have := hsz4.out; have := hsz5.out; omega) ?_
        intro v3 V6 hO hB hgr
        rw [List.nil_append] at hO
        obtain ⟨g, cap, rfl, hg, hcap, hd⟩ := hdb_of hO HH.out.1.len hs1
        have hzb6 := (hgr.block V4.heap.size (blk_lt K5.out.2.2.2.2) (fun q => by have q' : V4.heap.size = W2d.heap.size := Option.some.inj q; have := hsz4.out; have := hsz5.out; omega)).trans K5.out.2.2.2.2
        have hne6 : V4.heap.size ≠ g := hdb_ne hzb6 hO
        have K6 := Lib.hid (show _ ∧ _ ∧ _ ∧ _ ∧ _ from ⟨blk_below K5.out.1 hB (by have := hsz4.out; have := hsz5.out; omega), blk_below K5.out.2.1 hB (by have := hsz4.out; have := hsz5.out; omega), K5.out.2.2.1.trans (hB.mono (by have := K5.out.2.2.1.size; have := hsz4.out; have := hsz5.out; omega)), hd, hzb6⟩)
        have hgw6 : w.heap.size + 1 < g := by have := hsz4.out; have := hsz5.out; omega
        clear hzb6
        clear hO hB hgr hd
        refine hK' _ _ K6.out.1 ?_
        clear hK' K'
        go_simp
        refine wpAnyH_from (fuel := 1) 6 1 (fun _ _ _ _ _ h => h) (by kernel_rfl) (by decide) (by kernel_rfl) K6.out.1 ?_
        simp only [List.drop_succ_cons, List.drop_zero, List.take_succ_cons, List.take_zero]
        refine wpHeld_cons (.agg #[.slice (some ⟨g, 0, none⟩) sn cap, .slice none 0 0, .int .i64 (m : Int), .bool false]) (by kernel_rfl) ?_ ?_
        · intro w' s
          try go_simp
        refine wpHeld_nil ?_
        go_simp
        have hnz : V4.heap.size ≠ g := by have := hsz4.out; have := hsz5.out; omega
        have z0 := blk_cell K6.out.2.2.2.2 0
        have z1 := blk_cell K6.out.2.2.2.2 1
        have z2 := blk_cell K6.out.2.2.2.2 2
        have z3 := blk_cell K6.out.2.2.2.2 3
        have f0 := blk_free K6.out.2.2.2.2 0
        have f1 := blk_free K6.out.2.2.2.2 1
        have f2 := blk_free K6.out.2.2.2.2 2
        have f3 := blk_free K6.out.2.2.2.2 3
        refine wpAnyH_one (i := 8) (by kernel_rfl) rfl (by kernel_rfl) (fun K' hK' => ?_)
        go_simp
        have hx9 := cell4_other (u0 := .slice (some ⟨g, 0, none⟩) sn cap) (u1 := .slice none 0 0) (u2 := .int .i64 (m : Int)) (u3 := .bool false) K6.out.1 (show w.heap.size ≠ V4.heap.size by have := hsz4.out; have := hsz5.out; omega)
        have HF := Lib.hid (show _ ∧ _ ∧ _ ∧ _ ∧ _ from ⟨cell4_set (u0 := .slice (some ⟨g, 0, none⟩) sn cap) (u1 := .slice none 0 0) (u2 := .int .i64 (m : Int)) (u3 := .bool false) K6.out.2.2.2.2, K6.out.2.2.2.1.other (cell4_keep (u0 := .slice (some ⟨g, 0, none⟩) sn cap) (u1 := .slice none 0 0) (u2 := .int .i64 (m : Int)) (u3 := .bool false) (Ne.symm hnz)), hx9, cell4_other (u0 := .slice (some ⟨g, 0, none⟩) sn cap) (u1 := .slice none 0 0) (u2 := .int .i64 (m : Int)) (u3 := .bool false) K6.out.2.1 (show w.heap.size + 1 ≠ V4.heap.size by have := hsz4.out; have := hsz5.out; omega), cell4_below (u0 := .slice (some ⟨g, 0, none⟩) sn cap) (u1 := .slice none 0 0) (u2 := .int .i64 (m : Int)) (u3 := .bool false) (show w.heap.size ≤ V4.heap.size by have := hsz4.out; have := hsz5.out; omega) K6.out.2.2.1⟩)
        refine hK' _ _ hx9 ?_
        clear hK' K' z0 z1 z2 z3 f0 f1 f2 f3 hx9
        refine wpAnyH_done (by kernel_rfl) ?_ _
        refine NoPanic.normal ?_
        go_simp
        go_wp2_with fail
        go_meet
        case rel => exact ⟨_, g, cap, rfl, HF, by have := hsz4.out; have := hsz5.out; omega, by have := hsz4.out; have := hsz5.out; omega, hnz, hcap⟩
    · go_simp
      have K1 := Lib.hid (show _ ∧ _ ∧ _ ∧ _ from ⟨blk_alloc H3.out.1 (.cells #[.slice none 0 0, .slice none 0 0, .int .i64 0, .bool false] 25), blk_alloc H3.out.2.1 (.cells #[.slice none 0 0, .slice none 0 0, .int .i64 0, .bool false] 25), H3.out.2.2.alloc H3.out.2.2.size (.cells #[.slice none 0 0, .slice none 0 0, .int .i64 0, .bool false] 25), blk_new W2d (.cells #[.slice none 0 0, .slice none 0 0, .int .i64 0, .bool false] 25)⟩)
      have hsz1 := Lib.hid (show (W2d.alloc (.cells #[.slice none 0 0, .slice none 0 0, .int .i64 0, .bool false] 25)).heap.size = W2d.heap.size + 1 by simp)

      generalize W2d.alloc (.cells #[.slice none 0 0, .slice none 0 0, .int .i64 0, .bool false] 25) = V1 at *
      refine hK' _ _ K1.out.1 ?_
      clear hK' K'
      go_simp
      refine wpAnyH_one (i := 0) (by kernel_rfl) rfl (by kernel_rfl) (fun K' hK' => ?_)
      go_simp
      have K2 := Lib.hid (show _ ∧ _ ∧ _ ∧ Hds _ _ _ [] ∧ _ from ⟨blk_alloc K1.out.1 (.cells #[] 35), blk_alloc K1.out.2.1 (.cells #[] 35), K1.out.2.2.1.alloc K1.out.2.2.1.size (.cells #[] 35), Hds.empty' V1, blk_alloc K1.out.2.2.2 (.cells #[] 35)⟩)
      have hsz2 := Lib.hid (show (V1.alloc (.cells #[] 35)).heap.size = V1.heap.size + 1 by simp)
      generalize V1.alloc (.cells #[] 35) = V2 at *
      refine hK' _ _ K2.out.1 ?_
      clear hK' K'
      go_simp
      refine wpAnyH_one (i := 3) (by kernel_rfl) rfl (by kernel_rfl) (fun K' hK' => ?_)
      refine wp_append_hrow (.tmp 32) (.tmp 34) rfl V1.heap.size (.slice (some ⟨V1.heap.size, 0, none⟩) 0 0) [] rfl (K2.out.2.2.2.1) sa sb so sn sc S rfl (by have q := HH.out.1.below K2.out.2.2.1 (Nat.le_refl _); exact ⟨q.len, q.adr, q.old, q.cel⟩) hsc (by simp; omega) (by have := hsz1.out; have := hsz2.out; omega) ?_
      intro v3 V3 hO hB hgr
      rw [List.nil_append] at hO
      obtain ⟨g, cap, rfl, hg, hcap, hd⟩ := hdb_of hO HH.out.1.len hs1
      have hzb3 := (hgr.block W2d.heap.size (blk_lt K2.out.2.2.2.2) (fun q => by have q' : W2d.heap.size = V1.heap.size := Option.some.inj q; have := hsz1.out; have := hsz2.out; omega)).trans K2.out.2.2.2.2
      have hne3 : W2d.heap.size ≠ g := hdb_ne hzb3 hO
      have K3 := Lib.hid (show _ ∧ _ ∧ _ ∧ _ ∧ _ from ⟨blk_below K2.out.1 hB (by have := hsz1.out; have := hsz2.out; omega), blk_below K2.out.2.1 hB (by have := hsz1.out; have := hsz2.out; omega), K2.out.2.2.1.trans (hB.mono (by have := K2.out.2.2.1.size; have := hsz1.out; have := hsz2.out; omega)), hd, hzb3⟩)
      have hgw3 : w.heap.size + 1 < g := by have := hsz1.out; have := hsz2.out; omega
      clear hzb3
      clear hO hB hgr hd
      refine hK' _ _ K3.out.1 ?_
      clear hK' K'
      go_simp
      refine wpAnyH_from (fuel := 1) 6 1 (fun _ _ _ _ _ h => h) (by kernel_rfl) (by decide) (by kernel_rfl) K3.out.1 ?_
      simp only [List.drop_succ_cons, List.drop_zero, List.take_succ_cons, List.take_zero]
      refine wpHeld_cons (.agg #[.slice (some ⟨g, 0, none⟩) sn cap, .slice none 0 0, .int .i64 (m : Int), .bool false]) (by kernel_rfl) ?_ ?_
      · intro w' s
        try go_simp
      refine wpHeld_nil ?_
      go_simp
      have hnz : W2d.heap.size ≠ g := by have := hsz1.out; have := hsz2.out; omega
      have z0 := blk_cell K3.out.2.2.2.2 0
      have z1 := blk_cell K3.out.2.2.2.2 1
      have z2 := blk_cell K3.out.2.2.2.2 2
      have z3 := blk_cell K3.out.2.2.2.2 3
      have f0 := blk_free K3.out.2.2.2.2 0
      have f1 := blk_free K3.out.2.2.2.2 1
      have f2 := blk_free K3.out.2.2.2.2 2
      have f3 := blk_free K3.out.2.2.2.2 3
      refine wpAnyH_one (i := 8) (by kernel_rfl) rfl (by kernel_rfl) (fun K' hK' => ?_)
      go_simp
      have hx9 := cell4_other (u0 := .slice (some ⟨g, 0, none⟩) sn cap) (u1 := .slice none 0 0) (u2 := .int .i64 (m : Int)) (u3 := .bool false) K3.out.1 (show w.heap.size ≠ W2d.heap.size by have := hsz1.out; have := hsz2.out; omega)
      have HF := Lib.hid (show _ ∧ _ ∧ _ ∧ _ ∧ _ from ⟨cell4_set (u0 := .slice (some ⟨g, 0, none⟩) sn cap) (u1 := .slice none 0 0) (u2 := .int .i64 (m : Int)) (u3 := .bool false) K3.out.2.2.2.2, K3.out.2.2.2.1.other (cell4_keep (u0 := .slice (some ⟨g, 0, none⟩) sn cap) (u1 := .slice none 0 0) (u2 := .int .i64 (m : Int)) (u3 := .bool false) (Ne.symm hnz)), hx9, cell4_other (u0 := .slice (some ⟨g, 0, none⟩) sn cap) (u1 := .slice none 0 0) (u2 := .int .i64 (m : Int)) (u3 := .bool false) K3.out.2.1 (show w.heap.size + 1 ≠ W2d.heap.size by have := hsz1.out; have := hsz2.out; omega), cell4_below (u0 := .slice (some ⟨g, 0, none⟩) sn cap) (u1 := .slice none 0 0) (u2 := .int .i64 (m : Int)) (u3 := .bool false) (show w.heap.size ≤ W2d.heap.size by have := hsz1.out; have := hsz2.out; omega) K3.out.2.2.1⟩)
      refine hK' _ _ hx9 ?_
      clear hK' K' z0 z1 z2 z3 f0 f1 f2 f3 hx9
      refine wpAnyH_done (by kernel_rfl) ?_ _
      refine NoPanic.normal ?_
      go_simp
      go_wp2_with fail
      go_meet
      case rel => exact ⟨_, g, cap, rfl, HF, by have := hsz1.out; have := hsz2.out; omega, by have := hsz1.out; have := hsz2.out; omega, hnz, hcap⟩
  case rest =>
    obtain ⟨b6, g, cap, rfl, HC6, hb6, hg6, hbg, hcap⟩ := hcut
    clear H2 hlt hlz
    go_wp2_with fail
    go_loopw [7] (fun v wr => ∃ k : Nat, k ≤ m ∧ v = .int .i64 k ∧ Hid (wr.heap[b6]? = some (.cells #[.slice (some ⟨g, 0, none⟩) sn cap, .slice none 0 0, .int .i64 (m : Int), .bool false] 25 (0, 0)) ∧ HdB wr g sn (perfK S P k) ∧ wr.heap[w.heap.size]? = some (.cells #[.slice sa sn sc, .slice pa pn pc, .int .i64 (m : Int), .bool false] 25 (0, 0)) ∧ wr.heap[w.heap.size + 1]? = some (.cells #[.slice none 0 0, .slice none 0 0, .int .i64 0, .bool false] 25 (0, 0)) ∧ Below w.heap.size w wr)) (fun v _ => m - (intOf v).toNat)
    case atStart => exact ⟨0, Nat.zero_le _, rfl, HC6⟩
    case round =>
      obtain ⟨k, hk, rfl, HQ⟩ := hrel
      by_cases hkm : k < m
      · have j1 : (k : Int) < (m : Int) := by omega
        have j2 : ¬ (k : Int) < 0 := by omega
        have hkp : k < pn := by have := HC.out; omega
        have j3 : (k : Int) < (pn : Int) := by omega
        have u1 : IntKind.i64.wrap ((k : Int) + 1) = ((k + 1 : Nat) : Int) := (wrap_id (by omega)).trans (by omega)
        obtain rfl := HH.out.2.adr (by omega)
        have hwr := wr_ok HV.out (k := k) (by have := HH.out.2.len; omega)
        rw [HH.out.1.len] at hwr
        obtain ⟨t, ht⟩ := Int.eq_ofNat_of_zero_le hwr.1
        have hts : t < sn := by omega
        have j4 : (t : Int) < (sn : Int) := by omega
        have j5 : ¬ (t : Int) < 0 := by omega
        have hpo := HH.out.2.old (by omega)
        have a0 := (HQ.out.2.2.2.2.cell (p := ⟨pb, po + k * 2, none⟩) hpo).trans (HH.out.2.at_ k hkp)
        have a1 := (HQ.out.2.2.2.2.cell (p := ⟨pb, po + k * 2 + 1, none⟩) hpo).trans (HH.out.2.cel k hkp)
        rw [ht] at a0
        have hpk : perfK S P (k + 1) = (perfK S P k).set t (nW P k).2 := by rw [perfK, ht]; rfl
        obtain ⟨N, hN⟩ : ∃ N : Sl, N = (nW P k).2 := ⟨_, rfl⟩
        rw [← hN] at a1 hpk
        unfold slV at a1
        have HK := Lib.hid (show _ ∧ _ ∧ _ ∧ _ from ⟨hkm, hts, hpk, hpo⟩)
        have HA := Lib.hid (And.intro a0 a1)
        clear hwr ht hN hkm hk hts hpk hpo a0 a1
        go_wp2_with fail
        refine wp_region_from 0 15 (fun w' => w'.heap[b6]? = some (.cells #[.slice (some ⟨g, 0, none⟩) sn cap, .slice none 0 0, .int .i64 (m : Int), .bool false] 25 (0, 0)) ∧ w'.heap[w.heap.size]? = some (.cells #[.slice sa sn sc, .slice (some ⟨pb, po, none⟩) pn pc, .int .i64 (m : Int), .bool false] 25 (0, 0)) ∧ w'.cell? ⟨pb, po + k * 2, none⟩ = some (.int .i64 (t : Int)) ∧ w'.cell? ⟨pb, po + k * 2 + 1, none⟩ = some (.slice N.1 N.2.2.length N.2.1)) (by kernel_rfl) (by kernel_rfl) (by decide) (by kernel_rfl) ⟨HQ.out.1, HQ.out.2.2.1, HA.out.1, HA.out.2⟩ ?_
        simp only [List.drop_zero, List.take_succ_cons, List.take_zero]
        refine wpHeld_cons (.pointer (some ⟨b6, 0, none⟩)) (by kernel_rfl) ?_ ?_
        · rintro w' ⟨s1, s2, s3, s4⟩
          try go_simp
        refine wpHeld_cons (.slice (some ⟨g, 0, none⟩) sn cap) (by kernel_rfl) ?_ ?_
        · rintro w' ⟨s1, s2, s3, s4⟩
          have y0 := blk_cell s1 0
          simp at y0
          try go_simp
        refine wpHeld_cons (.pointer (some ⟨w.heap.size, 1, none⟩)) (by kernel_rfl) ?_ ?_
        · rintro w' ⟨s1, s2, s3, s4⟩
          try go_simp
        refine wpHeld_cons (.slice (some ⟨pb, po, none⟩) pn pc) (by kernel_rfl) ?_ ?_
        · rintro w' ⟨s1, s2, s3, s4⟩
          have y1 := blk_cell s2 1
          simp at y1
          try go_simp
        refine wpHeld_cons (.int .i64 (k : Int)) (by kernel_rfl) ?_ ?_
        · rintro w' ⟨s1, s2, s3, s4⟩
          try go_simp
        refine wpHeld_cons (.pointer (some ⟨pb, po + k * 2, none⟩)) (by kernel_rfl) ?_ ?_
        · rintro w' ⟨s1, s2, s3, s4⟩
          try go_simp
        refine wpHeld_cons (.pointer (some ⟨pb, po + k * 2, none⟩)) (by kernel_rfl) ?_ ?_
        · rintro w' ⟨s1, s2, s3, s4⟩
          try go_simp
        refine wpHeld_cons (.int .i64 (t : Int)) (by kernel_rfl) ?_ ?_
        · rintro w' ⟨s1, s2, s3, s4⟩
          try go_simp
        refine wpHeld_cons (.pointer (some ⟨w.heap.size, 1, none⟩)) (by kernel_rfl) ?_ ?_
        · rintro w' ⟨s1, s2, s3, s4⟩
          try go_simp
        refine wpHeld_cons (.slice (some ⟨pb, po, none⟩) pn pc) (by kernel_rfl) ?_ ?_
        · rintro w' ⟨s1, s2, s3, s4⟩
          have y1 := blk_cell s2 1
          simp at y1
          try go_simp
        refine wpHeld_cons (.int .i64 (k : Int)) (by kernel_rfl) ?_ ?_
        · rintro w' ⟨s1, s2, s3, s4⟩
          try go_simp
        refine wpHeld_cons (.pointer (some ⟨pb, po + k * 2, none⟩)) (by kernel_rfl) ?_ ?_
        · rintro w' ⟨s1, s2, s3, s4⟩
          try go_simp
        refine wpHeld_cons (.pointer (some ⟨pb, po + k * 2 + 1, none⟩)) (by kernel_rfl) ?_ ?_
        · rintro w' ⟨s1, s2, s3, s4⟩
          try go_simp
        refine wpHeld_cons (.slice N.1 N.2.2.length N.2.1) (by kernel_rfl) ?_ ?_
        · rintro w' ⟨s1, s2, s3, s4⟩
          try go_simp
        refine wpHeld_cons (.pointer (some ⟨g, t, none⟩)) (by kernel_rfl) ?_ ?_
        · rintro w' ⟨s1, s2, s3, s4⟩
          try go_simp
        refine wpHeld_nil ?_
        go_simp
        refine wpAnyH_one (i := 15) (by kernel_rfl) rfl (by kernel_rfl) (fun K' hK' => ?_)
        obtain ⟨wd, hwd⟩ : ∃ wd, wd = wr.drew := ⟨_, rfl⟩
        have HD := Lib.hid (show wr.drew.heap[b6]? = some (.cells #[.slice (some ⟨g, 0, none⟩) sn cap, .slice none 0 0, .int .i64 (m : Int), .bool false] 25 (0, 0)) ∧ HdB wr.drew g sn (perfK S P k) ∧ wr.drew.heap[w.heap.size]? = some (.cells #[.slice sa sn sc, .slice (some ⟨pb, po, none⟩) pn pc, .int .i64 (m : Int), .bool false] 25 (0, 0)) ∧ wr.drew.heap[w.heap.size + 1]? = some (.cells #[.slice none 0 0, .slice none 0 0, .int .i64 0, .bool false] 25 (0, 0)) ∧ Below w.heap.size w wr.drew from ⟨HQ.out.1, HQ.out.2.1.other rfl, HQ.out.2.2.1, HQ.out.2.2.2.1, HQ.out.2.2.2.2.drew⟩)
        have HA' := Lib.hid (show wr.drew.cell? ⟨pb, po + k * 2, none⟩ = some (.int .i64 (t : Int)) ∧ wr.drew.cell? ⟨pb, po + k * 2 + 1, none⟩ = some (.slice N.1 N.2.2.length N.2.1) from ⟨HA.out.1, HA.out.2⟩)
        rw [← hwd] at HD HA' ⊢
        clear hwd HA HQ
        have c0 := HD.out.2.1.cell HK.out.2.1
        have k0 := HD.out.2.1.free t
        unfold slV at c0
        go_simp
        have hne : pb ≠ g := by have := HK.out.2.2.2; omega
        have hb7 := (Below.heap_setCell wd ⟨g, t, none⟩ (.slice N.1 N.2.2.length N.2.1) b6 hbg).trans HD.out.1
        have hx7 := (Below.heap_setCell wd ⟨g, t, none⟩ (.slice N.1 N.2.2.length N.2.1) w.heap.size (show w.heap.size ≠ g by omega)).trans HD.out.2.2.1
        have HE := Lib.hid (show (wd.setCell ⟨g, t, none⟩ (.slice N.1 N.2.2.length N.2.1)).heap[b6]? = some (.cells #[.slice (some ⟨g, 0, none⟩) sn cap, .slice none 0 0, .int .i64 (m : Int), .bool false] 25 (0, 0)) ∧ HdB (wd.setCell ⟨g, t, none⟩ (.slice N.1 N.2.2.length N.2.1)) g sn (perfK S P (k + 1)) ∧ (wd.setCell ⟨g, t, none⟩ (.slice N.1 N.2.2.length N.2.1)).heap[w.heap.size]? = some (.cells #[.slice sa sn sc, .slice (some ⟨pb, po, none⟩) pn pc, .int .i64 (m : Int), .bool false] 25 (0, 0)) ∧ (wd.setCell ⟨g, t, none⟩ (.slice N.1 N.2.2.length N.2.1)).heap[w.heap.size + 1]? = some (.cells #[.slice none 0 0, .slice none 0 0, .int .i64 0, .bool false] 25 (0, 0)) ∧ Below w.heap.size w (wd.setCell ⟨g, t, none⟩ (.slice N.1 N.2.2.length N.2.1)) from ⟨hb7, by rw [HK.out.2.2.1]; exact HD.out.2.1.set HK.out.2.1, hx7, (Below.heap_setCell wd ⟨g, t, none⟩ (.slice N.1 N.2.2.length N.2.1) (w.heap.size + 1) (show w.heap.size + 1 ≠ g by omega)).trans HD.out.2.2.2.1, HD.out.2.2.2.2.setCell (p := ⟨g, t, none⟩) (show w.heap.size ≤ g by omega) _⟩)
        refine hK' _ _ ⟨hb7, hx7, by unfold World.cell?; rw [Below.heap_setCell wd ⟨g, t, none⟩ _ pb hne]; exact HA'.out.1, by unfold World.cell?; rw [Below.heap_setCell wd ⟨g, t, none⟩ _ pb hne]; exact HA'.out.2⟩ ?_
        clear hK' K' hb7 hx7 c0 k0 HD HA'
        generalize wd.setCell ⟨g, t, none⟩ (.slice N.1 N.2.2.length N.2.1) = We at *
        refine wpAnyH_done (by kernel_rfl) ?_ _
        refine NoPanic.normal ?_
        go_simp
        go_wp2_with fail
        go_roundw
        case rel => exact ⟨k + 1, HK.out.1, by go_num, HE⟩
        case measure => have := HK.out.1; simp [intOf]; omega
      · obtain rfl : k = m := by omega
        have j1 : ¬ (k : Int) < (k : Int) := by omega
        have y0 := blk_cell HQ.out.1 0
        have y1 := blk_cell HQ.out.1 1
        have y2 := blk_cell HQ.out.1 2
        have y3 := blk_cell HQ.out.1 3
        have z0 := blk_cell HQ.out.2.2.2.1 0
        have z1 := blk_cell HQ.out.2.2.2.1 1
        have z2 := blk_cell HQ.out.2.2.2.1 2
        have z3 := blk_cell HQ.out.2.2.2.1 3
        have f0 := blk_free HQ.out.2.2.2.1 0
        have f1 := blk_free HQ.out.2.2.2.1 1
        have f2 := blk_free HQ.out.2.2.2.1 2
        have f3 := blk_free HQ.out.2.2.2.1 3
        clear y1 y2 y3 z0 z1 z2 z3 f0 f1 f2 f3
        have hkp : k < pn := HC.out
        have j3 : (k : Int) < (pn : Int) := by omega
        have j2 : ¬ (k : Int) < 0 := by omega
        obtain rfl := HH.out.2.adr (by omega)
        have hwr := wr_ok HV.out (k := k) (by have := HH.out.2.len; omega)
        rw [HH.out.1.len] at hwr
        obtain ⟨t, ht⟩ := Int.eq_ofNat_of_zero_le hwr.1
        have hts : t < sn := by omega
        have j4 : (t : Int) < (sn : Int) := by omega
        have j5 : ¬ (t : Int) < 0 := by omega
        have hpo := HH.out.2.old (by omega)
        have a0 := (HQ.out.2.2.2.2.cell (p := ⟨pb, po + k * 2, none⟩) hpo).trans (HH.out.2.at_ k hkp)
        have a1 := (HQ.out.2.2.2.2.cell (p := ⟨pb, po + k * 2 + 1, none⟩) hpo).trans (HH.out.2.cel k hkp)
        rw [ht] at a0
        obtain ⟨N, hN⟩ : ∃ N : Sl, N = (nW P k).2 := ⟨_, rfl⟩
        rw [← hN] at a1
        have hNl : N.2.2.length = 128 := by rw [hN]; exact (HV.out.2.2 k (by have := HH.out.2.len; dsimp only; omega)).2.2
        have hNr := HH.out.2.row k hkp
        rw [← hN] at hNr
        obtain ⟨M, hM⟩ : ∃ M : Sl, M = nS (perfK S P k) t := ⟨_, rfl⟩
        have hMQ : ∀ (Q : Sl → Prop), (∀ i, i < sn → Q (nS S i)) → (∀ j, j < k → Q (nW P j).2) → Q M := fun Q h1 h2 => by
          rw [hM]
          exact perfK_row Q (fun i hi => h1 i (by rw [← HH.out.1.len]; exact hi)) k h2 t (by rw [HH.out.1.len]; exact hts)
        have hMl : M.2.2.length = 128 := hMQ (fun s => s.2.2.length = 128) (fun i hi => HV.out.2.1 i (by rw [HH.out.1.len]; exact hi)) (fun j hj => (HV.out.2.2 j (by have := HH.out.2.len; dsimp only; omega)).2.2)
        have hMr : SlR w M := hMQ (SlR w) (fun i hi => HH.out.1.row i hi) (fun j hj => HH.out.2.row j (by omega))
        unfold slV at a1
        rw [hNl] at a1
        have HT := Lib.hid (show _ ∧ _ ∧ _ ∧ _ from ⟨ht, hts, hN, hM⟩)
        have HNM := Lib.hid (show _ ∧ _ ∧ _ ∧ _ from ⟨hNl, hMl, hNr, hMr⟩)
        clear hwr ht hts hN hM hNl hMl hNr hMr hMQ hpo
        have x1 := blk_cell HQ.out.2.2.1 1
        go_upto_region 14 with fail
        obtain ⟨mb, mo, hMa, -, -⟩ := HNM.out.2.2.2.cells (by have := HNM.out.2.1; omega)
        obtain ⟨mc, hmc⟩ : ∃ mc, mc = M.2.1 := ⟨_, rfl⟩
        have hMv : slV M = .slice (some ⟨mb, mo, none⟩) 128 mc := by unfold slV; rw [hMa, HNM.out.2.1, hmc]
        have hmc128 : 128 ≤ mc := by obtain ⟨_, _, _, _, h⟩ := HNM.out.2.2.2; have := HNM.out.2.1; omega
        have hnc : 128 ≤ N.2.1 := by obtain ⟨_, _, _, _, h⟩ := HNM.out.2.2.1; have := HNM.out.1; omega
        have i1 : ¬ mc = 64 := by omega
        have i2 : 64 ≤ mc := by omega
        have i3 : (128 : Int) ≤ (mc : Int) := by omega
        have i4 : (64 : Int) ≤ (N.2.1 : Int) := by omega
        have hlr := blk_lt HQ.out.1
        have hlr2 := HQ.out.2.1.lt
        have hlr3 := blk_lt HQ.out.2.2.2.1
        have H2' := Lib.hid (show _ ∧ _ ∧ _ ∧ _ ∧ _ from ⟨blk_alloc HQ.out.1 (.cells #[.int .i64 (t : Int), .slice N.1 128 N.2.1] 54), HQ.out.2.1.alloc (.cells #[.int .i64 (t : Int), .slice N.1 128 N.2.1] 54), blk_alloc HQ.out.2.2.2.1 (.cells #[.int .i64 (t : Int), .slice N.1 128 N.2.1] 54), HQ.out.2.2.2.2.alloc HQ.out.2.2.2.2.size (.cells #[.int .i64 (t : Int), .slice N.1 128 N.2.1] 54), blk_new wr (.cells #[.int .i64 (t : Int), .slice N.1 128 N.2.1] 54)⟩)
        have hMe : some (⟨mb, mo, none⟩ : Addr) = M.1 := hMa.symm
        have HM := Lib.hid (And.intro hMe (And.intro hmc hMv))
        clear a0 a1 x1 y0 hMa hMe hmc hMv HQ
        generalize wr.alloc (.cells #[.int .i64 (t : Int), .slice N.1 128 N.2.1] 54) = W3 at *
        have hs3 : wr.heap.size < W3.heap.size := blk_lt H2'.out.2.2.2.2
        have H3 := Lib.hid (show _ ∧ _ ∧ _ ∧ _ ∧ _ from ⟨blk_drew H2'.out.1, H2'.out.2.1.other (w' := W3.drew) rfl, blk_drew H2'.out.2.2.1, H2'.out.2.2.2.1.drew, blk_drew H2'.out.2.2.2.2⟩)
        have hs3d : W3.drew.heap.size = W3.heap.size := rfl
        refine wp_region_from 0 4 (fun w' => w'.heap[b6]? = some (.cells #[.slice (some ⟨g, 0, none⟩) sn cap, .slice none 0 0, .int .i64 (k : Int), .bool false] 25 (0, 0)) ∧ w'.heap[wr.heap.size]? = some (.cells #[.int .i64 (t : Int), .slice N.1 128 N.2.1] 54 (0, 0))) (by kernel_rfl) (by kernel_rfl) (by decide) (by kernel_rfl) ⟨H3.out.1, H3.out.2.2.2.2⟩ ?_
        simp only [List.drop_zero, List.take_succ_cons, List.take_zero]
        refine wpHeld_cons (.pointer (some ⟨b6, 0, none⟩)) (by kernel_rfl) ?_ ?_
        · rintro w' ⟨s1, s2⟩
          try go_simp
        refine wpHeld_cons (.slice (some ⟨g, 0, none⟩) sn cap) (by kernel_rfl) ?_ ?_
        · rintro w' ⟨s1, s2⟩
          have y0 := blk_cell s1 0
          simp at y0
          try go_simp
        refine wpHeld_cons (.pointer (some ⟨wr.heap.size, 0, none⟩)) (by kernel_rfl) ?_ ?_
        · rintro w' ⟨s1, s2⟩
          try go_simp
        refine wpHeld_cons (.int .i64 (t : Int)) (by kernel_rfl) ?_ ?_
        · rintro w' ⟨s1, s2⟩
          have y0 := blk_cell s2 0
          simp at y0
          try go_simp
        refine wpHeld_nil ?_
        go_simp
        refine wpAnyH_from (fuel := 12) 5 3 (fun _ _ _ _ _ h => h) (by kernel_rfl) (by decide) (by kernel_rfl) ⟨H3.out.1, H3.out.2.2.2.2⟩ ?_
        simp only [List.drop_succ_cons, List.drop_zero, List.take_succ_cons, List.take_zero]
        refine wpHeld_cons (.pointer (some ⟨wr.heap.size, 1, none⟩)) (by kernel_rfl) ?_ ?_
        · rintro w' ⟨s1, s2⟩
          try go_simp
        refine wpHeld_cons (.slice N.1 128 N.2.1) (by kernel_rfl) ?_ ?_
        · rintro w' ⟨s1, s2⟩
          have y1 := blk_cell s2 1
          simp at y1
          try go_simp
        refine wpHeld_cons (.slice N.1 64 N.2.1) (by kernel_rfl) ?_ ?_
        · rintro w' ⟨s1, s2⟩
          try go_simp
        refine wpHeld_nil ?_
        go_simp
        refine wpAnyH_from (fuel := 7) 9 5 (fun _ _ _ _ _ h => h) (by kernel_rfl) (by decide) (by kernel_rfl) ⟨H3.out.1, H3.out.2.2.2.2⟩ ?_
        simp only [List.drop_succ_cons, List.drop_zero, List.take_succ_cons, List.take_zero]
        refine wpHeld_cons (.pointer (some ⟨b6, 0, none⟩)) (by kernel_rfl) ?_ ?_
        · rintro w' ⟨s1, s2⟩
          try go_simp
        refine wpHeld_cons (.slice (some ⟨g, 0, none⟩) sn cap) (by kernel_rfl) ?_ ?_
        · rintro w' ⟨s1, s2⟩
          have y0 := blk_cell s1 0
          simp at y0
          try go_simp
        refine wpHeld_cons (.pointer (some ⟨wr.heap.size, 0, none⟩)) (by kernel_rfl) ?_ ?_
        · rintro w' ⟨s1, s2⟩
          try go_simp
        refine wpHeld_cons (.int .i64 (t : Int)) (by kernel_rfl) ?_ ?_
        · rintro w' ⟨s1, s2⟩
          have y0 := blk_cell s2 0
          simp at y0
          try go_simp
        refine wpHeld_cons (.pointer (some ⟨g, t, none⟩)) (by kernel_rfl) ?_ ?_
        · rintro w' ⟨s1, s2⟩
          try go_simp
        refine wpHeld_nil ?_
        go_simp
        refine wpAnyH_two (i := 4) (j := 14) (by kernel_rfl) rfl rfl (by kernel_rfl) (by kernel_rfl) (fun K' hK' => ?_) (fun K' hK' => ?_)
        · go_simp
          have H4 := Lib.hid (show _ ∧ _ ∧ _ ∧ _ ∧ _ ∧ Byts (W3.alloc (.cells #[] 5)).drew W3.heap.size _ [] from ⟨blk_drew (blk_alloc H2'.out.1 (.cells #[] 5)), (H2'.out.2.1.alloc (.cells #[] 5)).other (w' := (W3.alloc (.cells #[] 5)).drew) rfl, blk_drew (blk_alloc H2'.out.2.2.1 (.cells #[] 5)), (H2'.out.2.2.2.1.alloc H2'.out.2.2.2.1.size (.cells #[] 5)).drew, blk_drew (blk_alloc H2'.out.2.2.2.2 (.cells #[] 5)), (Byts.empty W3).drew⟩)
          have hs4 : W3.heap.size < (W3.alloc (.cells #[] 5)).drew.heap.size := by simp
          generalize (W3.alloc (.cells #[] 5)).drew = W4 at *
          clear H3
          refine hK' _ _ ⟨H4.out.1, H4.out.2.2.2.2.1⟩ ?_
          clear hK' K'
          go_simp
          refine wpAnyH_two (i := 8) (j := 14) (by kernel_rfl) rfl rfl (by kernel_rfl) (by kernel_rfl) (fun K' hK' => ?_) (fun K' hK' => ?_)
          · obtain ⟨nb, no, hNR, hNn, hNc⟩ := HNM.out.2.2.1
            have hNR4 := hNR.below H4.out.2.2.2.1 (Nat.le_refl _)
            rw [HNM.out.1] at hNR4
            refine wp_append_brow (.tmp 69) (.tmp 72) rfl W3.heap.size (.slice (some ⟨W3.heap.size, 0, none⟩) 0 0) [] rfl H4.out.2.2.2.2.2 N.1 nb no 64 N.2.1 (N.2.2.take 64) rfl (hNR4.pre (by omega)) hNn (by simp) (by omega) ?_
            intro v5 W5 hO5 hB5 hgr
            clear hgr hNR hNn hNc hNR4
            rw [List.nil_append] at hO5
            have H5 := Lib.hid (show _ ∧ _ ∧ _ ∧ _ ∧ _ ∧ _ from ⟨blk_below H4.out.1 hB5 (by omega), H4.out.2.1.below hB5 (by omega), blk_below H4.out.2.2.1 hB5 (by omega), H4.out.2.2.2.1.trans (hB5.mono (by omega)), blk_below H4.out.2.2.2.2.1 hB5 (by omega), hO5⟩)
            have hs5 := hB5.size
            clear hO5 hB5 H4
            refine hK' _ _ ⟨H5.out.1, H5.out.2.2.2.2.1⟩ ?_
            clear hK' K'
            go_simp
            refine wpAnyH_one (i := 14) (by kernel_rfl) rfl (by kernel_rfl) (fun K' hK' => ?_)
            have c3 := H5.out.2.1.cell HT.out.2.1
            rw [← HT.out.2.2.2, HM.out.2.2] at c3
            go_simp
            refine hK' _ _ ⟨H5.out.1, H5.out.2.2.2.2.1⟩ ?_
            clear hK' K'
            go_simp
            refine wpAnyH_from (fuel := 3) 15 1 (fun _ _ _ _ _ h => h) (by kernel_rfl) (by decide) (by kernel_rfl) ⟨H5.out.1, H5.out.2.2.2.2.1⟩ ?_
            simp only [List.drop_succ_cons, List.drop_zero, List.take_succ_cons, List.take_zero]
            refine wpHeld_cons (.slice (some ⟨mb, mo + 64, none⟩) 64 (mc - 64)) (by kernel_rfl) ?_ ?_
            · rintro w' ⟨s1, s2⟩
              try go_simp
            refine wpHeld_nil ?_
            go_simp
            clear c3
            refine wpAnyH_one (i := 16) (by kernel_rfl) rfl (by kernel_rfl) (fun K' hK' => ?_)
            obtain ⟨mb', mo', hMR, hMn, hMc⟩ := HNM.out.2.2.2
            have hMR5 := hMR.below H5.out.2.2.2.1 (Nat.le_refl _)
            rw [HNM.out.2.1, ← HM.out.1] at hMR5
            obtain ⟨rfl, rfl⟩ : mb = mb' ∧ mo = mo' := by have := hMR5.adr (by omega); simp at this; exact ⟨this.1, this.2⟩
            have hMR6 := hMR5.sub (i := 64) (s := 64) (by omega)
            rw [List.take_of_length_le (by simp; have := HNM.out.2.1; omega)] at hMR6
            refine wp_append_brow (.tmp 73) (.tmp 80) rfl W3.heap.size v5 (N.2.2.take 64) rfl H5.out.2.2.2.2.2 (some ⟨mb, mo + 64, none⟩) mb (mo + 64) 64 (mc - 64) (M.2.2.drop 64) rfl hMR6 (fun h => by cases h) (by simp; omega) (by omega) ?_
            intro v6 W6 hO6 hB6 hgr
            clear hgr hMR hMn hMc hMR5 hMR6
            have hYl : (tornL N.2.2 M.2.2).length = 128 := by
              have h1 := HNM.out.1
              have h2 := HNM.out.2.1
              simp [tornL]; omega
            rw [show List.take 64 N.2.2 ++ List.drop 64 M.2.2 = tornL N.2.2 M.2.2 from rfl] at hO6
            obtain ⟨q, qc, rfl, hq, hqc, hql⟩ := byts_blk hO6 hYl (by omega)
            have H6 := Lib.hid (show _ ∧ _ ∧ _ ∧ _ ∧ _ ∧ _ from ⟨blk_below H5.out.1 hB6 (by omega), H5.out.2.1.below hB6 (by omega), blk_below H5.out.2.2.1 hB6 (by omega), H5.out.2.2.2.1.trans (hB6.mono (by omega)), blk_below H5.out.2.2.2.2.1 hB6 (by omega), hO6⟩)
            clear hO6 hB6 H5 hYl
            refine hK' _ _ ⟨H6.out.1, H6.out.2.2.2.2.1⟩ ?_
            clear hK' K'
            go_simp
            refine wpAnyH_from (fuel := 1) 17 1 (fun _ _ _ _ _ h => h) (by kernel_rfl) (by decide) (by kernel_rfl) ⟨H6.out.1, H6.out.2.2.2.2.1⟩ ?_
            simp only [List.drop_succ_cons, List.drop_zero, List.take_succ_cons, List.take_zero]
            refine wpHeld_cons (.pointer (some ⟨g, t, none⟩)) (by kernel_rfl) ?_ ?_
            · rintro w' ⟨s1, s2⟩
              try go_simp
            refine wpHeld_nil ?_
            go_simp
            refine wpAnyH_one (i := 18) (by kernel_rfl) rfl (by kernel_rfl) (fun K' hK' => ?_)
            have c6 := H6.out.2.1.cell HT.out.2.1
            unfold slV at c6
            have k6 := H6.out.2.1.free t
            go_simp
            obtain ⟨Y, hY⟩ : ∃ Y : Sl, Y = (some ⟨q, 0, none⟩, qc, tornL N.2.2 M.2.2) := ⟨_, rfl⟩
            have hYl : (tornL N.2.2 M.2.2).length = 128 := by
              have h1 := HNM.out.1
              have h2 := HNM.out.2.1
              simp [tornL]; omega
            have hsv : slV Y = (.slice (some ⟨q, 0, none⟩) 128 qc) := by rw [hY]; simp [slV, hYl]
            have hd9 : HdB (W6.setCell ⟨g, t, none⟩ (.slice (some ⟨q, 0, none⟩) 128 qc)) g sn ((perfK S P k).set t Y) := by rw [← hsv]; exact H6.out.2.1.set HT.out.2.1
            have hk9 : ∀ k, k ≠ g → (W6.setCell ⟨g, t, none⟩ (.slice (some ⟨q, 0, none⟩) 128 qc)).heap[k]? = W6.heap[k]? := fun k hk => Below.heap_setCell _ _ _ _ hk
            have hb89 := (hk9 wr.heap.size (by omega)).trans H6.out.2.2.2.2.1
            have hO9 := H6.out.2.2.2.2.2.keep (fun k h1 h2 => hk9 k (by omega))
            have H9 := Lib.hid (show _ ∧ _ ∧ _ ∧ _ ∧ _ ∧ _ from ⟨(hk9 b6 hbg).trans H6.out.1, hd9, (hk9 (w.heap.size + 1) (by omega)).trans H6.out.2.2.1, H6.out.2.2.2.1.setCell (p := ⟨g, t, none⟩) (show w.heap.size ≤ g by omega) (.slice (some ⟨q, 0, none⟩) 128 qc), hO9, hY⟩)
            refine hK' _ _ ⟨H9.out.1, hb89⟩ ?_
            clear hK' K' hd9 hk9 hb89 hO9 hY hsv c6 k6 H6
            generalize W6.setCell ⟨g, t, none⟩ (.slice (some ⟨q, 0, none⟩) 128 qc) = W9 at *
            refine wpAnyH_done (by kernel_rfl) ?_ _
            refine NoPanic.normal ?_
            go_simp
            have y0 := blk_cell H9.out.1 0
            have y1 := blk_cell H9.out.1 1
            have y2 := blk_cell H9.out.1 2
            have y3 := blk_cell H9.out.1 3
            have g2 := blk_free H9.out.1 2
            have g3 := blk_free H9.out.1 3
            go_upto_region 17 with fail
            have HZ := Lib.hid (show ((W9.setCell ⟨b6, 2, none⟩ (.int .i64 0)).setCell ⟨b6, 3, none⟩ (.bool true)).heap[b6]? = some (.cells #[.slice (some ⟨g, 0, none⟩) sn cap, .slice none 0 0, .int .i64 0, .bool true] 25 (0, 0)) ∧ HdB ((W9.setCell ⟨b6, 2, none⟩ (.int .i64 0)).setCell ⟨b6, 3, none⟩ (.bool true)) g sn ((perfK S P k).set t Y) ∧ ((W9.setCell ⟨b6, 2, none⟩ (.int .i64 0)).setCell ⟨b6, 3, none⟩ (.bool true)).heap[w.heap.size + 1]? = some (.cells #[.slice none 0 0, .slice none 0 0, .int .i64 0, .bool false] 25 (0, 0)) ∧ Below w.heap.size w ((W9.setCell ⟨b6, 2, none⟩ (.int .i64 0)).setCell ⟨b6, 3, none⟩ (.bool true)) ∧ Byts ((W9.setCell ⟨b6, 2, none⟩ (.int .i64 0)).setCell ⟨b6, 3, none⟩ (.bool true)) W3.heap.size _ _ ∧ Y = _ from ⟨cells_setU (cells_setU H9.out.1), (H9.out.2.1.other (Below.heap_setCell W9 ⟨b6, 2, none⟩ _ g (Ne.symm hbg))).other (Below.heap_setCell (W9.setCell ⟨b6, 2, none⟩ (.int .i64 0)) ⟨b6, 3, none⟩ _ g (Ne.symm hbg)), (Below.heap_setCell (W9.setCell ⟨b6, 2, none⟩ (.int .i64 0)) ⟨b6, 3, none⟩ _ (w.heap.size + 1) (by show w.heap.size + 1 ≠ b6; omega)).trans ((Below.heap_setCell W9 ⟨b6, 2, none⟩ _ (w.heap.size + 1) (by show w.heap.size + 1 ≠ b6; omega)).trans H9.out.2.2.1), (H9.out.2.2.2.1.setCell (p := ⟨b6, 2, none⟩) (show w.heap.size ≤ b6 by omega) _).setCell (p := ⟨b6, 3, none⟩) (show w.heap.size ≤ b6 by omega) _, H9.out.2.2.2.2.1.keep (fun k h1 h2 => (Below.heap_setCell (W9.setCell ⟨b6, 2, none⟩ (.int .i64 0)) ⟨b6, 3, none⟩ _ k (by show k ≠ b6; omega)).trans (Below.heap_setCell W9 ⟨b6, 2, none⟩ _ k (by show k ≠ b6; omega))), H9.out.2.2.2.2.2⟩)
            generalize ((W9.setCell ⟨b6, 2, none⟩ (.int .i64 0)).setCell ⟨b6, 3, none⟩ (.bool true)) = W10 at *
            clear y0 y1 y2 y3 g2 g3 H9
            have y0 := blk_cell HZ.out.1 0
            have y1 := blk_cell HZ.out.1 1
            have y2 := blk_cell HZ.out.1 2
            have y3 := blk_cell HZ.out.1 3
            have z0 := blk_cell HZ.out.2.2.1 0
            have z1 := blk_cell HZ.out.2.2.1 1
            have z2 := blk_cell HZ.out.2.2.1 2
            have z3 := blk_cell HZ.out.2.2.1 3
            have f0 := blk_free HZ.out.2.2.1 0
            have f1 := blk_free HZ.out.2.2.1 1
            have f2 := blk_free HZ.out.2.2.1 2
            have f3 := blk_free HZ.out.2.2.1 3
            go_wp2
            have hbF := cell4_below (u0 := .slice (some ⟨g, 0, none⟩) sn cap) (u1 := .slice none 0 0) (u2 := .int .i64 0) (u3 := .bool true) (show w.heap.size ≤ w.heap.size + 1 by omega) HZ.out.2.2.2.1
            have hdF := HZ.out.2.1.other (cell4_keep (u0 := .slice (some ⟨g, 0, none⟩) sn cap) (u1 := .slice none 0 0) (u2 := .int .i64 0) (u3 := .bool true) (show g ≠ w.heap.size + 1 by omega))
            have hYF := slg_of_byts (HZ.out.2.2.2.2.1.keep (fun k h1 h2 => cell4_keep (u0 := .slice (some ⟨g, 0, none⟩) sn cap) (u1 := .slice none 0 0) (u2 := .int .i64 0) (u3 := .bool true) (show k ≠ w.heap.size + 1 by omega))) (by rw [hYl]; omega)
            rw [← HZ.out.2.2.2.2.2] at hYF
            refine bodyPost_ret (v := .tuple #[.agg #[.slice (some ⟨g, 0, none⟩) sn cap, .slice none 0 0, .int .i64 0, .bool true], .int .i64 40]) ?_ rfl ⟨.inr (.inr ⟨HR.out, by omega, by have := HC.out; omega, g, cap, Y, hcap, by omega, hYF.mono (by omega), ?_, ?_, rfl⟩), hbF⟩
            · exact results_dk_tmp Try.results24 _ _ (w.heap.size + 1) 25 #[.slice (some ⟨g, 0, none⟩) sn cap, .slice none 0 0, .int .i64 0, .bool true] (0, 0) rfl (cell4_set HZ.out.2.2.1) (by kernel_rfl) _ rfl
            · rw [HZ.out.2.2.2.2.2, Int.toNat_natCast, show (nW P k).1.toNat = t by rw [HT.out.1]; rfl, ← HT.out.2.2.1, ← HT.out.2.2.2]
            · rw [Int.toNat_natCast, show (nW P k).1.toNat = t by rw [HT.out.1]; rfl]
              exact secs_of_hdb hdF fun i hi => nS_setD (SlR _) hYF.r (perfK_row (SlR _) (fun i hi => (HH.out.1.row i (by have := HH.out.1.len; omega)).below hbF (Nat.le_refl _)) k (fun j hj => (HH.out.2.row j (by have := HC.out; omega)).below hbF (Nat.le_refl _)) i (by have := HH.out.1.len; omega)) (by rw [perfK_len]; have := HH.out.1.len; omega)
          · have c3 := H4.out.2.1.cell HT.out.2.1
            rw [← HT.out.2.2.2, HM.out.2.2] at c3
            go_simp
            refine hK' _ _ ⟨H4.out.1, H4.out.2.2.2.2.1⟩ ?_
            clear hK' K'
            go_simp
            refine wpAnyH_from (fuel := 4) 15 1 (fun _ _ _ _ _ h => h) (by kernel_rfl) (by decide) (by kernel_rfl) ⟨H4.out.1, H4.out.2.2.2.2.1⟩ ?_
            simp only [List.drop_succ_cons, List.drop_zero, List.take_succ_cons, List.take_zero]
            refine wpHeld_cons (.slice (some ⟨mb, mo + 64, none⟩) 64 (mc - 64)) (by kernel_rfl) ?_ ?_
            · rintro w' ⟨s1, s2⟩
              try go_simp
            refine wpHeld_nil ?_
            go_simp
            clear c3
            refine wpAnyH_one (i := 8) (by kernel_rfl) rfl (by kernel_rfl) (fun K' hK' => ?_)
            obtain ⟨nb, no, hNR, hNn, hNc⟩ := HNM.out.2.2.1
            have hNR4 := hNR.below H4.out.2.2.2.1 (Nat.le_refl _)
            rw [HNM.out.1] at hNR4
            refine wp_append_brow (.tmp 69) (.tmp 72) rfl W3.heap.size (.slice (some ⟨W3.heap.size, 0, none⟩) 0 0) [] rfl H4.out.2.2.2.2.2 N.1 nb no 64 N.2.1 (N.2.2.take 64) rfl (hNR4.pre (by omega)) hNn (by simp) (by omega) ?_
            intro v5 W5 hO5 hB5 hgr
            clear hgr hNR hNn hNc hNR4
            rw [List.nil_append] at hO5
            have H5 := Lib.hid (show _ ∧ _ ∧ _ ∧ _ ∧ _ ∧ _ from ⟨blk_below H4.out.1 hB5 (by omega), H4.out.2.1.below hB5 (by omega), blk_below H4.out.2.2.1 hB5 (by omega), H4.out.2.2.2.1.trans (hB5.mono (by omega)), blk_below H4.out.2.2.2.2.1 hB5 (by omega), hO5⟩)
            have hs5 := hB5.size
            clear hO5 hB5 H4
            refine hK' _ _ ⟨H5.out.1, H5.out.2.2.2.2.1⟩ ?_
            clear hK' K'
            go_simp
            refine wpAnyH_one (i := 16) (by kernel_rfl) rfl (by kernel_rfl) (fun K' hK' => ?_)
            obtain ⟨mb', mo', hMR, hMn, hMc⟩ := HNM.out.2.2.2
            have hMR5 := hMR.below H5.out.2.2.2.1 (Nat.le_refl _)
            rw [HNM.out.2.1, ← HM.out.1] at hMR5
            obtain ⟨rfl, rfl⟩ : mb = mb' ∧ mo = mo' := by have := hMR5.adr (by omega); simp at this; exact ⟨this.1, this.2⟩
            have hMR6 := hMR5.sub (i := 64) (s := 64) (by omega)
            rw [List.take_of_length_le (by simp; have := HNM.out.2.1; omega)] at hMR6
            refine wp_append_brow (.tmp 73) (.tmp 80) rfl W3.heap.size v5 (N.2.2.take 64) rfl H5.out.2.2.2.2.2 (some ⟨mb, mo + 64, none⟩) mb (mo + 64) 64 (mc - 64) (M.2.2.drop 64) rfl hMR6 (fun h => by cases h) (by simp; omega) (by omega) ?_
            intro v6 W6 hO6 hB6 hgr
            clear hgr hMR hMn hMc hMR5 hMR6
            have hYl : (tornL N.2.2 M.2.2).length = 128 := by
              have h1 := HNM.out.1
              have h2 := HNM.out.2.1
              simp [tornL]; omega
            rw [show List.take 64 N.2.2 ++ List.drop 64 M.2.2 = tornL N.2.2 M.2.2 from rfl] at hO6
            obtain ⟨q, qc, rfl, hq, hqc, hql⟩ := byts_blk hO6 hYl (by omega)
            have H6 := Lib.hid (show _ ∧ _ ∧ _ ∧ _ ∧ _ ∧ _ from ⟨blk_below H5.out.1 hB6 (by omega), H5.out.2.1.below hB6 (by omega), blk_below H5.out.2.2.1 hB6 (by omega), H5.out.2.2.2.1.trans (hB6.mono (by omega)), blk_below H5.out.2.2.2.2.1 hB6 (by omega), hO6⟩)
            clear hO6 hB6 H5 hYl
            refine hK' _ _ ⟨H6.out.1, H6.out.2.2.2.2.1⟩ ?_
            clear hK' K'
            go_simp
            refine wpAnyH_from (fuel := 1) 17 1 (fun _ _ _ _ _ h => h) (by kernel_rfl) (by decide) (by kernel_rfl) ⟨H6.out.1, H6.out.2.2.2.2.1⟩ ?_
            simp only [List.drop_succ_cons, List.drop_zero, List.take_succ_cons, List.take_zero]
            refine wpHeld_cons (.pointer (some ⟨g, t, none⟩)) (by kernel_rfl) ?_ ?_
            · rintro w' ⟨s1, s2⟩
              try go_simp
            refine wpHeld_nil ?_
            go_simp
            refine wpAnyH_one (i := 18) (by kernel_rfl) rfl (by kernel_rfl) (fun K' hK' => ?_)
            have c6 := H6.out.2.1.cell HT.out.2.1
            unfold slV at c6
            have k6 := H6.out.2.1.free t
            go_simp
            obtain ⟨Y, hY⟩ : ∃ Y : Sl, Y = (some ⟨q, 0, none⟩, qc, tornL N.2.2 M.2.2) := ⟨_, rfl⟩
            have hYl : (tornL N.2.2 M.2.2).length = 128 := by
              have h1 := HNM.out.1
              have h2 := HNM.out.2.1
              simp [tornL]; omega
            have hsv : slV Y = (.slice (some ⟨q, 0, none⟩) 128 qc) := by rw [hY]; simp [slV, hYl]
            have hd9 : HdB (W6.setCell ⟨g, t, none⟩ (.slice (some ⟨q, 0, none⟩) 128 qc)) g sn ((perfK S P k).set t Y) := by rw [← hsv]; exact H6.out.2.1.set HT.out.2.1
            have hk9 : ∀ k, k ≠ g → (W6.setCell ⟨g, t, none⟩ (.slice (some ⟨q, 0, none⟩) 128 qc)).heap[k]? = W6.heap[k]? := fun k hk => Below.heap_setCell _ _ _ _ hk
            have hb89 := (hk9 wr.heap.size (by omega)).trans H6.out.2.2.2.2.1
            have hO9 := H6.out.2.2.2.2.2.keep (fun k h1 h2 => hk9 k (by omega))
            have H9 := Lib.hid (show _ ∧ _ ∧ _ ∧ _ ∧ _ ∧ _ from ⟨(hk9 b6 hbg).trans H6.out.1, hd9, (hk9 (w.heap.size + 1) (by omega)).trans H6.out.2.2.1, H6.out.2.2.2.1.setCell (p := ⟨g, t, none⟩) (show w.heap.size ≤ g by omega) (.slice (some ⟨q, 0, none⟩) 128 qc), hO9, hY⟩)
            refine hK' _ _ ⟨H9.out.1, hb89⟩ ?_
            clear hK' K' hd9 hk9 hb89 hO9 hY hsv c6 k6 H6
            generalize W6.setCell ⟨g, t, none⟩ (.slice (some ⟨q, 0, none⟩) 128 qc) = W9 at *
            refine wpAnyH_done (by kernel_rfl) ?_ _
            refine NoPanic.normal ?_
            go_simp
            have y0 := blk_cell H9.out.1 0
            have y1 := blk_cell H9.out.1 1
            have y2 := blk_cell H9.out.1 2
            have y3 := blk_cell H9.out.1 3
            have g2 := blk_free H9.out.1 2
            have g3 := blk_free H9.out.1 3
            go_upto_region 17 with fail
            have HZ := Lib.hid (show ((W9.setCell ⟨b6, 2, none⟩ (.int .i64 0)).setCell ⟨b6, 3, none⟩ (.bool true)).heap[b6]? = some (.cells #[.slice (some ⟨g, 0, none⟩) sn cap, .slice none 0 0, .int .i64 0, .bool true] 25 (0, 0)) ∧ HdB ((W9.setCell ⟨b6, 2, none⟩ (.int .i64 0)).setCell ⟨b6, 3, none⟩ (.bool true)) g sn ((perfK S P k).set t Y) ∧ ((W9.setCell ⟨b6, 2, none⟩ (.int .i64 0)).setCell ⟨b6, 3, none⟩ (.bool true)).heap[w.heap.size + 1]? = some (.cells #[.slice none 0 0, .slice none 0 0, .int .i64 0, .bool false] 25 (0, 0)) ∧ Below w.heap.size w ((W9.setCell ⟨b6, 2, none⟩ (.int .i64 0)).setCell ⟨b6, 3, none⟩ (.bool true)) ∧ Byts ((W9.setCell ⟨b6, 2, none⟩ (.int .i64 0)).setCell ⟨b6, 3, none⟩ (.bool true)) W3.heap.size _ _ ∧ Y = _ from ⟨cells_setU (cells_setU H9.out.1), (H9.out.2.1.other (Below.heap_setCell W9 ⟨b6, 2, none⟩ _ g (Ne.symm hbg))).other (Below.heap_setCell (W9.setCell ⟨b6, 2, none⟩ (.int .i64 0)) ⟨b6, 3, none⟩ _ g (Ne.symm hbg)), (Below.heap_setCell (W9.setCell ⟨b6, 2, none⟩ (.int .i64 0)) ⟨b6, 3, none⟩ _ (w.heap.size + 1) (by show w.heap.size + 1 ≠ b6; omega)).trans ((Below.heap_setCell W9 ⟨b6, 2, none⟩ _ (w.heap.size + 1) (by show w.heap.size + 1 ≠ b6; omega)).trans H9.out.2.2.1), (H9.out.2.2.2.1.setCell (p := ⟨b6, 2, none⟩) (show w.heap.size ≤ b6 by omega) _).setCell (p := ⟨b6, 3, none⟩) (show w.heap.size ≤ b6 by omega) _, H9.out.2.2.2.2.1.keep (fun k h1 h2 => (Below.heap_setCell (W9.setCell ⟨b6, 2, none⟩ (.int .i64 0)) ⟨b6, 3, none⟩ _ k (by show k ≠ b6; omega)).trans (Below.heap_setCell W9 ⟨b6, 2, none⟩ _ k (by show k ≠ b6; omega))), H9.out.2.2.2.2.2⟩)
            generalize ((W9.setCell ⟨b6, 2, none⟩ (.int .i64 0)).setCell ⟨b6, 3, none⟩ (.bool true)) = W10 at *
            clear y0 y1 y2 y3 g2 g3 H9
            have y0 := blk_cell HZ.out.1 0
            have y1 := blk_cell HZ.out.1 1
            have y2 := blk_cell HZ.out.1 2
            have y3 := blk_cell HZ.out.1 3
            have z0 := blk_cell HZ.out.2.2.1 0
            have z1 := blk_cell HZ.out.2.2.1 1
            have z2 := blk_cell HZ.out.2.2.1 2
            have z3 := blk_cell HZ.out.2.2.1 3
            have f0 := blk_free HZ.out.2.2.1 0
            have f1 := blk_free HZ.out.2.2.1 1
            have f2 := blk_free HZ.out.2.2.1 2
            have f3 := blk_free HZ.out.2.2.1 3
            go_wp2
            have hbF := cell4_below (u0 := .slice (some ⟨g, 0, none⟩) sn cap) (u1 := .slice none 0 0) (u2 := .int .i64 0) (u3 := .bool true) (show w.heap.size ≤ w.heap.size + 1 by omega) HZ.out.2.2.2.1
            have hdF := HZ.out.2.1.other (cell4_keep (u0 := .slice (some ⟨g, 0, none⟩) sn cap) (u1 := .slice none 0 0) (u2 := .int .i64 0) (u3 := .bool true) (show g ≠ w.heap.size + 1 by omega))
            have hYF := slg_of_byts (HZ.out.2.2.2.2.1.keep (fun k h1 h2 => cell4_keep (u0 := .slice (some ⟨g, 0, none⟩) sn cap) (u1 := .slice none 0 0) (u2 := .int .i64 0) (u3 := .bool true) (show k ≠ w.heap.size + 1 by omega))) (by rw [hYl]; omega)
            rw [← HZ.out.2.2.2.2.2] at hYF
            refine bodyPost_ret (v := .tuple #[.agg #[.slice (some ⟨g, 0, none⟩) sn cap, .slice none 0 0, .int .i64 0, .bool true], .int .i64 40]) ?_ rfl ⟨.inr (.inr ⟨HR.out, by omega, by have := HC.out; omega, g, cap, Y, hcap, by omega, hYF.mono (by omega), ?_, ?_, rfl⟩), hbF⟩
            · exact results_dk_tmp Try.results24 _ _ (w.heap.size + 1) 25 #[.slice (some ⟨g, 0, none⟩) sn cap, .slice none 0 0, .int .i64 0, .bool true] (0, 0) rfl (cell4_set HZ.out.2.2.1) (by kernel_rfl) _ rfl
            · rw [HZ.out.2.2.2.2.2, Int.toNat_natCast, show (nW P k).1.toNat = t by rw [HT.out.1]; rfl, ← HT.out.2.2.1, ← HT.out.2.2.2]
            · rw [Int.toNat_natCast, show (nW P k).1.toNat = t by rw [HT.out.1]; rfl]
              exact secs_of_hdb hdF fun i hi => nS_setD (SlR _) hYF.r (perfK_row (SlR _) (fun i hi => (HH.out.1.row i (by have := HH.out.1.len; omega)).below hbF (Nat.le_refl _)) k (fun j hj => (HH.out.2.row j (by have := HC.out; omega)).below hbF (Nat.le_refl _)) i (by have := HH.out.1.len; omega)) (by rw [perfK_len]; have := HH.out.1.len; omega)
        · have c3 := H3.out.2.1.cell HT.out.2.1
          rw [← HT.out.2.2.2, HM.out.2.2] at c3
          go_simp
          refine hK' _ _ ⟨H3.out.1, H3.out.2.2.2.2⟩ ?_
          clear hK' K'
          go_simp
          refine wpAnyH_from (fuel := 5) 15 1 (fun _ _ _ _ _ h => h) (by kernel_rfl) (by decide) (by kernel_rfl) ⟨H3.out.1, H3.out.2.2.2.2⟩ ?_
          simp only [List.drop_succ_cons, List.drop_zero, List.take_succ_cons, List.take_zero]
          refine wpHeld_cons (.slice (some ⟨mb, mo + 64, none⟩) 64 (mc - 64)) (by kernel_rfl) ?_ ?_
          · rintro w' ⟨s1, s2⟩
            try go_simp
          refine wpHeld_nil ?_
          go_simp
          clear c3
          refine wpAnyH_one (i := 4) (by kernel_rfl) rfl (by kernel_rfl) (fun K' hK' => ?_)
          go_simp
          have H4 := Lib.hid (show _ ∧ _ ∧ _ ∧ _ ∧ _ ∧ Byts (W3.alloc (.cells #[] 5)).drew W3.heap.size _ [] from ⟨blk_drew (blk_alloc H2'.out.1 (.cells #[] 5)), (H2'.out.2.1.alloc (.cells #[] 5)).other (w' := (W3.alloc (.cells #[] 5)).drew) rfl, blk_drew (blk_alloc H2'.out.2.2.1 (.cells #[] 5)), (H2'.out.2.2.2.1.alloc H2'.out.2.2.2.1.size (.cells #[] 5)).drew, blk_drew (blk_alloc H2'.out.2.2.2.2 (.cells #[] 5)), (Byts.empty W3).drew⟩)
          have hs4 : W3.heap.size < (W3.alloc (.cells #[] 5)).drew.heap.size := by simp
          generalize (W3.alloc (.cells #[] 5)).drew = W4 at *
          clear H3
          refine hK' _ _ ⟨H4.out.1, H4.out.2.2.2.2.1⟩ ?_
          clear hK' K'
          go_simp
          refine wpAnyH_one (i := 8) (by kernel_rfl) rfl (by kernel_rfl) (fun K' hK' => ?_)
          obtain ⟨nb, no, hNR, hNn, hNc⟩ := HNM.out.2.2.1
          have hNR4 := hNR.below H4.out.2.2.2.1 (Nat.le_refl _)
          rw [HNM.out.1] at hNR4
          refine wp_append_brow (.tmp 69) (.tmp 72) rfl W3.heap.size (.slice (some ⟨W3.heap.size, 0, none⟩) 0 0) [] rfl H4.out.2.2.2.2.2 N.1 nb no 64 N.2.1 (N.2.2.take 64) rfl (hNR4.pre (by omega)) hNn (by simp) (by omega) ?_
          intro v5 W5 hO5 hB5 hgr
          clear hgr hNR hNn hNc hNR4
          rw [List.nil_append] at hO5
          have H5 := Lib.hid (show _ ∧ _ ∧ _ ∧ _ ∧ _ ∧ _ from ⟨blk_below H4.out.1 hB5 (by omega), H4.out.2.1.below hB5 (by omega), blk_below H4.out.2.2.1 hB5 (by omega), H4.out.2.2.2.1.trans (hB5.mono (by omega)), blk_below H4.out.2.2.2.2.1 hB5 (by omega), hO5⟩)
          have hs5 := hB5.size
          clear hO5 hB5 H4
          refine hK' _ _ ⟨H5.out.1, H5.out.2.2.2.2.1⟩ ?_
          clear hK' K'
          go_simp
          refine wpAnyH_one (i := 16) (by kernel_rfl) rfl (by kernel_rfl) (fun K' hK' => ?_)
          obtain ⟨mb', mo', hMR, hMn, hMc⟩ := HNM.out.2.2.2
          have hMR5 := hMR.below H5.out.2.2.2.1 (Nat.le_refl _)
          rw [HNM.out.2.1, ← HM.out.1] at hMR5
          obtain ⟨rfl, rfl⟩ : mb = mb' ∧ mo = mo' := by have := hMR5.adr (by omega); simp at this; exact ⟨this.1, this.2⟩
          have hMR6 := hMR5.sub (i := 64) (s := 64) (by omega)
          rw [List.take_of_length_le (by simp; have := HNM.out.2.1; omega)] at hMR6
          refine wp_append_brow (.tmp 73) (.tmp 80) rfl W3.heap.size v5 (N.2.2.take 64) rfl H5.out.2.2.2.2.2 (some ⟨mb, mo + 64, none⟩) mb (mo + 64) 64 (mc - 64) (M.2.2.drop 64) rfl hMR6 (fun h => by cases h) (by simp; omega) (by omega) ?_
          intro v6 W6 hO6 hB6 hgr
          clear hgr hMR hMn hMc hMR5 hMR6
          have hYl : (tornL N.2.2 M.2.2).length = 128 := by
            have h1 := HNM.out.1
            have h2 := HNM.out.2.1
            simp [tornL]; omega
          rw [show List.take 64 N.2.2 ++ List.drop 64 M.2.2 = tornL N.2.2 M.2.2 from rfl] at hO6
          obtain ⟨q, qc, rfl, hq, hqc, hql⟩ := byts_blk hO6 hYl (by omega)
          have H6 := Lib.hid (show _ ∧ _ ∧ _ ∧ _ ∧ _ ∧ _ from ⟨blk_below H5.out.1 hB6 (by omega), H5.out.2.1.below hB6 (by omega), blk_below H5.out.2.2.1 hB6 (by omega), H5.out.2.2.2.1.trans (hB6.mono (by omega)), blk_below H5.out.2.2.2.2.1 hB6 (by omega), hO6⟩)
          clear hO6 hB6 H5 hYl
          refine hK' _ _ ⟨H6.out.1, H6.out.2.2.2.2.1⟩ ?_
          clear hK' K'
          go_simp
          refine wpAnyH_from (fuel := 1) 17 1 (fun _ _ _ _ _ h => h) (by kernel_rfl) (by decide) (by kernel_rfl) ⟨H6.out.1, H6.out.2.2.2.2.1⟩ ?_
          simp only [List.drop_succ_cons, List.drop_zero, List.take_succ_cons, List.take_zero]
          refine wpHeld_cons (.pointer (some ⟨g, t, none⟩)) (by kernel_rfl) ?_ ?_
          · rintro w' ⟨s1, s2⟩
            try go_simp
          refine wpHeld_nil ?_
          go_simp
          refine wpAnyH_one (i := 18) (by kernel_rfl) rfl (by kernel_rfl) (fun K' hK' => ?_)
          have c6 := H6.out.2.1.cell HT.out.2.1
          unfold slV at c6
          have k6 := H6.out.2.1.free t
          go_simp
          obtain ⟨Y, hY⟩ : ∃ Y : Sl, Y = (some ⟨q, 0, none⟩, qc, tornL N.2.2 M.2.2) := ⟨_, rfl⟩
          have hYl : (tornL N.2.2 M.2.2).length = 128 := by
            have h1 := HNM.out.1
            have h2 := HNM.out.2.1
            simp [tornL]; omega
          have hsv : slV Y = (.slice (some ⟨q, 0, none⟩) 128 qc) := by rw [hY]; simp [slV, hYl]
          have hd9 : HdB (W6.setCell ⟨g, t, none⟩ (.slice (some ⟨q, 0, none⟩) 128 qc)) g sn ((perfK S P k).set t Y) := by rw [← hsv]; exact H6.out.2.1.set HT.out.2.1
          have hk9 : ∀ k, k ≠ g → (W6.setCell ⟨g, t, none⟩ (.slice (some ⟨q, 0, none⟩) 128 qc)).heap[k]? = W6.heap[k]? := fun k hk => Below.heap_setCell _ _ _ _ hk
          have hb89 := (hk9 wr.heap.size (by omega)).trans H6.out.2.2.2.2.1
          have hO9 := H6.out.2.2.2.2.2.keep (fun k h1 h2 => hk9 k (by omega))
          have H9 := Lib.hid (show _ ∧ _ ∧ _ ∧ _ ∧ _ ∧ _ from ⟨(hk9 b6 hbg).trans H6.out.1, hd9, (hk9 (w.heap.size + 1) (by omega)).trans H6.out.2.2.1, H6.out.2.2.2.1.setCell (p := ⟨g, t, none⟩) (show w.heap.size ≤ g by omega) (.slice (some ⟨q, 0, none⟩) 128 qc), hO9, hY⟩)
          refine hK' _ _ ⟨H9.out.1, hb89⟩ ?_
          clear hK' K' hd9 hk9 hb89 hO9 hY hsv c6 k6 H6
          generalize W6.setCell ⟨g, t, none⟩ (.slice (some ⟨q, 0, none⟩) 128 qc) = W9 at *
          refine wpAnyH_done (by kernel_rfl) ?_ _
          refine NoPanic.normal ?_
          go_simp
          have y0 := blk_cell H9.out.1 0
          have y1 := blk_cell H9.out.1 1
          have y2 := blk_cell H9.out.1 2
          have y3 := blk_cell H9.out.1 3
          have g2 := blk_free H9.out.1 2
          have g3 := blk_free H9.out.1 3
          go_upto_region 17 with fail
          have HZ := Lib.hid (show ((W9.setCell ⟨b6, 2, none⟩ (.int .i64 0)).setCell ⟨b6, 3, none⟩ (.bool true)).heap[b6]? = some (.cells #[.slice (some ⟨g, 0, none⟩) sn cap, .slice none 0 0, .int .i64 0, .bool true] 25 (0, 0)) ∧ HdB ((W9.setCell ⟨b6, 2, none⟩ (.int .i64 0)).setCell ⟨b6, 3, none⟩ (.bool true)) g sn ((perfK S P k).set t Y) ∧ ((W9.setCell ⟨b6, 2, none⟩ (.int .i64 0)).setCell ⟨b6, 3, none⟩ (.bool true)).heap[w.heap.size + 1]? = some (.cells #[.slice none 0 0, .slice none 0 0, .int .i64 0, .bool false] 25 (0, 0)) ∧ Below w.heap.size w ((W9.setCell ⟨b6, 2, none⟩ (.int .i64 0)).setCell ⟨b6, 3, none⟩ (.bool true)) ∧ Byts ((W9.setCell ⟨b6, 2, none⟩ (.int .i64 0)).setCell ⟨b6, 3, none⟩ (.bool true)) W3.heap.size _ _ ∧ Y = _ from ⟨cells_setU (cells_setU H9.out.1), (H9.out.2.1.other (Below.heap_setCell W9 ⟨b6, 2, none⟩ _ g (Ne.symm hbg))).other (Below.heap_setCell (W9.setCell ⟨b6, 2, none⟩ (.int .i64 0)) ⟨b6, 3, none⟩ _ g (Ne.symm hbg)), (Below.heap_setCell (W9.setCell ⟨b6, 2, none⟩ (.int .i64 0)) ⟨b6, 3, none⟩ _ (w.heap.size + 1) (by show w.heap.size + 1 ≠ b6; omega)).trans ((Below.heap_setCell W9 ⟨b6, 2, none⟩ _ (w.heap.size + 1) (by show w.heap.size + 1 ≠ b6; omega)).trans H9.out.2.2.1), (H9.out.2.2.2.1.setCell (p := ⟨b6, 2, none⟩) (show w.heap.size ≤ b6 by omega) _).setCell (p := ⟨b6, 3, none⟩) (show w.heap.size ≤ b6 by omega) _, H9.out.2.2.2.2.1.keep (fun k h1 h2 => (Below.heap_setCell (W9.setCell ⟨b6, 2, none⟩ (.int .i64 0)) ⟨b6, 3, none⟩ _ k (by show k ≠ b6; omega)).trans (Below.heap_setCell W9 ⟨b6, 2, none⟩ _ k (by show k ≠ b6; omega))), H9.out.2.2.2.2.2⟩)
          generalize ((W9.setCell ⟨b6, 2, none⟩ (.int .i64 0)).setCell ⟨b6, 3, none⟩ (.bool true)) = W10 at *
          clear y0 y1 y2 y3 g2 g3 H9
          have y0 := blk_cell HZ.out.1 0
          have y1 := blk_cell HZ.out.1 1
          have y2 := blk_cell HZ.out.1 2
          have y3 := blk_cell HZ.out.1 3
          have z0 := blk_cell HZ.out.2.2.1 0
          have z1 := blk_cell HZ.out.2.2.1 1
          have z2 := blk_cell HZ.out.2.2.1 2
          have z3 := blk_cell HZ.out.2.2.1 3
          have f0 := blk_free HZ.out.2.2.1 0
          have f1 := blk_free HZ.out.2.2.1 1
          have f2 := blk_free HZ.out.2.2.1 2
          have f3 := blk_free HZ.out.2.2.1 3
          go_wp2
          have hbF := cell4_below (u0 := .slice (some ⟨g, 0, none⟩) sn cap) (u1 := .slice none 0 0) (u2 := .int .i64 0) (u3 := .bool true) (show w.heap.size ≤ w.heap.size + 1 by omega) HZ.out.2.2.2.1
          have hdF := HZ.out.2.1.other (cell4_keep (u0 := .slice (some ⟨g, 0, none⟩) sn cap) (u1 := .slice none 0 0) (u2 := .int .i64 0) (u3 := .bool true) (show g ≠ w.heap.size + 1 by omega))
          have hYF := slg_of_byts (HZ.out.2.2.2.2.1.keep (fun k h1 h2 => cell4_keep (u0 := .slice (some ⟨g, 0, none⟩) sn cap) (u1 := .slice none 0 0) (u2 := .int .i64 0) (u3 := .bool true) (show k ≠ w.heap.size + 1 by omega))) (by rw [hYl]; omega)
          rw [← HZ.out.2.2.2.2.2] at hYF
          refine bodyPost_ret (v := .tuple #[.agg #[.slice (some ⟨g, 0, none⟩) sn cap, .slice none 0 0, .int .i64 0, .bool true], .int .i64 40]) ?_ rfl ⟨.inr (.inr ⟨HR.out, by omega, by have := HC.out; omega, g, cap, Y, hcap, by omega, hYF.mono (by omega), ?_, ?_, rfl⟩), hbF⟩
          · exact results_dk_tmp Try.results24 _ _ (w.heap.size + 1) 25 #[.slice (some ⟨g, 0, none⟩) sn cap, .slice none 0 0, .int .i64 0, .bool true] (0, 0) rfl (cell4_set HZ.out.2.2.1) (by kernel_rfl) _ rfl
          · rw [HZ.out.2.2.2.2.2, Int.toNat_natCast, show (nW P k).1.toNat = t by rw [HT.out.1]; rfl, ← HT.out.2.2.1, ← HT.out.2.2.2]
          · rw [Int.toNat_natCast, show (nW P k).1.toNat = t by rw [HT.out.1]; rfl]
            exact secs_of_hdb hdF fun i hi => nS_setD (SlR _) hYF.r (perfK_row (SlR _) (fun i hi => (HH.out.1.row i (by have := HH.out.1.len; omega)).below hbF (Nat.le_refl _)) k (fun j hj => (HH.out.2.row j (by have := HC.out; omega)).below hbF (Nat.le_refl _)) i (by have := HH.out.1.len; omega)) (by rw [perfK_len]; have := HH.out.1.len; omega)
end Go.Proofs.Ytbimmahlcceadaa
