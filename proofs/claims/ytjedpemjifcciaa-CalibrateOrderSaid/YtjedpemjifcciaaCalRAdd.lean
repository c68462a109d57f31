/- The reference's Add; Changed, whatever is asked (layer 42). -/
import Derived.Test.YtjedpemjifcciaaCalAdd
import Derived.Test.YtjedpemjifcciaaCalRChg
import Derived.Test.YtjedpemjifcciaaCalChg
namespace Go.Proofs.Ytjedpemjifcciaa
open Go.ChangeShapes Go.WideShapes Go.ChangeAt Go.RowKit Go.Sort Go.Shelf

theorem pos_ex {l : List Rt} (hok : okTo l l.length) (k : K3) : ∃ i, Pos l k i := by
  have H : ∀ m, m ≤ l.length → ∃ i, i ≤ m ∧ (∀ t, t < i → ltK (ky (nthR l t)) k) ∧ ∀ t, i ≤ t → t < m → ¬ ltK (ky (nthR l t)) k := by
    intro m
    induction m with
    | zero => intro _; exact ⟨0, Nat.le_refl _, fun t ht => by omega, fun t _ ht => by omega⟩
    | succ m ih =>
      intro hm
      obtain ⟨i, h1, h2, h3⟩ := ih (by omega)
      by_cases hlt : ltK (ky (nthR l m)) k
      · have him : i = m := by
          rcases Nat.lt_or_ge i m with h | h
          · exact absurd (ltK_trans (recs_lt hok h (by omega)) hlt) (h3 i (Nat.le_refl _) h)
          · omega
        subst him
        exact ⟨i + 1, Nat.le_refl _, fun t ht => by
          by_cases e : t = i
          · subst e; exact hlt
          · exact h2 t (by omega), fun t ht ht' => by omega⟩
      · exact ⟨i, by omega, h2, fun t ht ht' => by
          by_cases e : t = m
          · subst e; exact hlt
          · exact h3 t ht (by omega)⟩
  obtain ⟨i, h⟩ := H l.length (Nat.le_refl _)
  exact ⟨i, h⟩
theorem pos_of {l : List Rt} {k : K3} {i : Nat} (hok : okTo l l.length) (hi : i ≤ l.length) (h1 : ∀ t, t < i → ltK (ky (nthR l t)) k) (h2 : i < l.length → ¬ ltK (ky (nthR l i)) k) : Pos l k i :=
  ⟨hi, h1, fun t ht ht' g => by
    by_cases e : t = i
    · subst e; exact h2 ht' g
    · exact h2 (by omega) (ltK_trans (recs_lt hok (by omega) ht') g)⟩
theorem hasK_t {l : List Rt} {k : K3} {i : Nat} (hi : i < l.length) (h : ky (nthR l i) = k) : hasK l k i = true := by unfold hasK; exact decide_eq_true ⟨hi, h⟩
theorem hasK_f {l : List Rt} {k : K3} {i : Nat} (h : i < l.length → ky (nthR l i) ≠ k) : hasK l k i = false := by unfold hasK; exact decide_eq_false fun g => h g.1 g.2

theorem grown_other {w w' : World} {own : Option Nat} {q : Nat} {ob : Obj} (h : w.grownBy w' own) (hq : w.heap[q]? = some ob) (hn : some q ≠ own) : w'.heap[q]? = some ob := (h.block q (Array.getElem?_eq_some_iff.1 hq).1 hn).trans hq
theorem rs_drop {w : World} {n b off : Nat} {l : List Rt} (h : Rs w (some ⟨b, off, none⟩) n b off l) (k : Nat) (hk : k < n) : Rs w (some ⟨b, off + k * 5, none⟩) (n - k) b (off + k * 5) (l.drop k) := by
  obtain ⟨b3, o3, h1, _⟩ := h.post (Nat.le_of_lt hk) (Nat.le_refl n) (fun e => by cases e)
  obtain ⟨e, _⟩ := h1.2.1 (by omega)
  rw [if_neg (by omega)] at h1 e
  rw [e] at h1
  replace e : some (Addr.add ⟨b, off, none⟩ (k * 5)) = some ⟨b3, o3, none⟩ := e
  rw [Go.WideShapes.add_plain] at e
  cases e
  exact h1
theorem own_at {g p : Nat} {n c : Nat} (h : some p = (Value.slice (some ⟨g, 0, none⟩) n c).ownBlock) : p = g := by
  simp [Value.ownBlock] at h; exact h

set_option maxRecDepth 100000 in
set_option maxHeartbeats 8000000 in
theorem radd_any (a : Option Addr) (n cap b off : Nat) (l : List Rt) (r : Rt) (w : World) (h : Rs w a n b off l) (hn : n ≤ 9223372036854775807) (hz : a = none → cap = 0) (hnc : n ≤ cap) (hcm : cap ≤ 9223372036854775807) :
    Calls Try.prog 11 #[.slice a n cap, vR r] w (AddP l r w.heap.size w) := by
  have HM := Lib.hid (show _ ∧ _ ∧ _ from ⟨h, hz, h.1⟩)
  clear h hz
  obtain ⟨r0, r1, r2, r3, r4⟩ := r
  dsimp only [vR]
  obtain ⟨W, hW⟩ : ∃ W, W = w.alloc (.cells #[.int .i64 r0, .int .i64 r1, .int .i64 r2, .int .i64 r3, .int .i64 r4] 24) := ⟨_, rfl⟩
  have hB : Below w.heap.size w W := by rw [hW]; go_grown
  have g1 : W.heap[w.heap.size]? = some (.cells #[.int .i64 r0, .int .i64 r1, .int .i64 r2, .int .i64 r3, .int .i64 r4] 24 (0, 0)) := by rw [hW]; exact blk_new _ _
  have H := Lib.hid (show _ ∧ _ from ⟨hB, g1⟩)
  clear hB g1
  go_enter Try.func11, Try.ntmps11
  go_upto_region 1 with fail
  rw [← hW]
  clear hW
  go_wp2_with fail
  refine (rcheck_any a n cap b off l W (HM.out.1.grown H.out.1) hn).mono ?_
  rintro e W1 ⟨rfl, hb1⟩
  have H1 := Lib.hid (show _ ∧ _ from ⟨below_after H.out.1 hb1 H.out.1.size, blk_below H.out.2 hb1 (Array.getElem?_eq_some_iff.1 H.out.2).1⟩)
  clear hb1
  rcases chkR_cases l with ⟨hc1, hc2⟩ | ⟨hc1, hc0, hc2⟩ | ⟨hR, hc2⟩
  · have E := Lib.hid (addC_no (r := (r0, r1, r2, r3, r4)) (i := 0) (l := l) (fun g => by have := g.1; omega))
    have E2 := Lib.hid hc2
    rw [hc2]
    clear hc2 hc1
    go_wp2
    exact bodyPost_ret (v := .tuple #[.slice none 0 0, .int .i64 2]) (by simp [results, Try.results11, go_sem]) rfl (AddP.err (i := 0) (fun g => by have h1 := chkR_yes g; rw [E2.out] at h1; cases h1) (E.out.trans E2.out) (by decide) H1.out.1)
  · have E := Lib.hid (addC_no (r := (r0, r1, r2, r3, r4)) (i := 0) (l := l) hc0)
    have E2 := Lib.hid hc2
    rw [hc2]
    clear hc2 hc1 hc0
    go_wp2
    exact bodyPost_ret (v := .tuple #[.slice none 0 0, .int .i64 420]) (by simp [results, Try.results11, go_sem]) rfl (AddP.err (i := 0) (fun g => by have h1 := chkR_yes g; rw [E2.out] at h1; cases h1) (E.out.trans E2.out) (by decide) H1.out.1)
  have HR := Lib.hid hR
  rw [hc2]
  clear hc2 hR
  have hn2 : n ≤ 256 := by rw [← HM.out.2.2]; exact HR.out.1
  have d0 := blk_cell H1.out.2 0; have d1 := blk_cell H1.out.2 1; have d2 := blk_cell H1.out.2 2; have d3 := blk_cell H1.out.2 3; have d4 := blk_cell H1.out.2 4
  simp at d0 d1 d2 d3 d4
  by_cases hv : okR (r0, r1, r2, r3, r4)
  case neg =>
    obtain ⟨i, hp⟩ := pos_ex HR.out.2 (ky (r0, r1, r2, r3, r4))
    have E := Lib.hid (addC_bad (i := i) (r := (r0, r1, r2, r3, r4)) HR.out (.inr hv))
    have HP := Lib.hid hp
    clear hp
    go_wp2_with fail
    clear d0 d1 d2 d3 d4
    refine (rvalid_f (r0, r1, r2, r3, r4) W1 hv).mono ?_
    rintro e W3 ⟨rfl, hb3⟩
    have HB := Lib.hid (below_after H1.out.1 hb3 H1.out.1.size)
    clear hb3
    go_wp2
    exact bodyPost_ret (v := .tuple #[.slice none 0 0, .int .i64 420]) (by simp [results, Try.results11, go_sem]) rfl (AddP.err (fun _ => HP.out) E.out (by decide) HB.out)
  go_wp2_with fail
  clear d0 d1 d2 d3 d4
  refine (rvalid_t (r0, r1, r2, r3, r4) W1 hv).mono ?_
  rintro e W2 ⟨rfl, hb2⟩
  have H2 := Lib.hid (show _ ∧ _ from ⟨below_after H1.out.1 hb2 H1.out.1.size, blk_below H1.out.2 hb2 (Array.getElem?_eq_some_iff.1 H1.out.2).1⟩)
  have HV := Lib.hid hv
  clear hb2 H1 H hv
  go_wp2
  go_loopw [7] (fun i wr => ∃ k : Nat, k ≤ n ∧ i = .int .i64 k ∧ (∀ t, t < k → ltK (ky (nthR l t)) (ky (r0, r1, r2, r3, r4))) ∧ wr.heap[w.heap.size]? = some (.cells #[.int .i64 r0, .int .i64 r1, .int .i64 r2, .int .i64 r3, .int .i64 r4] 24 (0, 0)) ∧ Below w.heap.size w wr) (fun i _ => n - (intOf i).toNat)
  case atStart => exact ⟨0, Nat.zero_le _, rfl, fun t ht => by omega, H2.out.2, H2.out.1⟩
  case round =>
    clear H2
    obtain ⟨k, hk, rfl, hlo, hbx, hb⟩ := hrel
    have HK := Lib.hid (show _ ∧ _ ∧ _ from ⟨hlo, hbx, hb⟩)
    have hbl := (Array.getElem?_eq_some_iff.1 hbx).1
    have d0 := cell_regrown (blk_cell hbx 0); have d1 := cell_regrown (blk_cell hbx 1); have d2 := cell_regrown (blk_cell hbx 2); have d3 := cell_regrown (blk_cell hbx 3); have d4 := cell_regrown (blk_cell hbx 4)
    simp at d0 d1 d2 d3 d4
    clear hlo hbx hb
    have hb0 := HK.out.2.2.size
    by_cases hkn : k < n
    · obtain ⟨rfl, hbw⟩ := HM.out.1.2.1 (by omega)
      obtain ⟨c0, c1, c2, c3, c4⟩ := (HM.out.1.grown HK.out.2.2).2.2 k hkn
      have hkl : k < l.length := by rw [HM.out.2.2]; exact hkn
      have hlo2 := fun (h : ltK (ky (nthR l k)) (ky (r0, r1, r2, r3, r4))) t (ht : t < k + 1) => show ltK (ky (nthR l t)) (ky (r0, r1, r2, r3, r4)) from by
        by_cases e : t = k
        · subst e; exact h
        · exact HK.out.1 t (by omega)
      have hpo := fun (h : ¬ ltK (ky (nthR l k)) (ky (r0, r1, r2, r3, r4))) => pos_of HR.out.2 (Nat.le_of_lt hkl) HK.out.1 fun _ => h
      have hkt := fun (h : ky (nthR l k) = ky (r0, r1, r2, r3, r4)) => hasK_t hkl h
      have hkf := fun (h : ky (nthR l k) ≠ ky (r0, r1, r2, r3, r4)) => hasK_f (l := l) (i := k) fun _ => h
      generalize hx : nthR l k = x at *
      obtain ⟨x0, x1, x2, x3, x4⟩ := x
      have HX := Lib.hid (show _ ∧ _ ∧ _ ∧ _ ∧ _ from ⟨hlo2, hpo, hkt, hkf, hx⟩)
      clear hx hlo2 hpo hkt hkf
      dsimp only at c0 c1 c2 c3 c4
      replace c0 := cell_regrown c0; replace c1 := cell_regrown c1; replace c2 := cell_regrown c2; replace c3 := cell_regrown c3; replace c4 := cell_regrown c4
      have hkn' : (k : Int) < n := by omega
      by_cases q : ltK (ky (x0, x1, x2, x3, x4)) (ky (r0, r1, r2, r3, r4))
      · go_wp2
        refine wp_region_quiet_below (by kernel_rfl) (by kernel_rfl) ?_
        repeat (go_big_quiet_step (((go_at_call 26; with_reducible exact Calls.regrown_of (rless_t (x0, x1, x2, x3, x4) (r0, r1, r2, r3, r4) _ q)))))
        refine wpQuiet_nil ?_
        intro WQ hq'
        have hq := of_regrown hq'
        clear hq'
        go_wp2
        go_roundw
        case rel => exact ⟨k + 1, by omega, by go_num, HX.out.1 q, blk_below HK.out.2.1 hq hbl, below_after HK.out.2.2 hq hb0⟩
        case measure => simp [intOf]; omega
      have HPos := Lib.hid (HX.out.2.1 q)
      go_wp2
      refine wp_region_quiet_below (by kernel_rfl) (by kernel_rfl) ?_
      repeat (go_big_quiet_step (((go_at_call 26; with_reducible exact Calls.regrown_of (rless_f (x0, x1, x2, x3, x4) (r0, r1, r2, r3, r4) _ q)))))
      refine wpQuiet_nil ?_
      intro WL hl'
      have hl := of_regrown hl'
      clear hl'
      have HL := Lib.hid (show _ ∧ _ from ⟨blk_below HK.out.2.1 hl hbl, below_after HK.out.2.2 hl hb0⟩)
      have hlL := (Array.getElem?_eq_some_iff.1 HL.out.1).1
      have hbL := HL.out.2.size
      have e0 := cell_regrown (blk_cell HL.out.1 0); have e1 := cell_regrown (blk_cell HL.out.1 1); have e2 := cell_regrown (blk_cell HL.out.1 2); have e3 := cell_regrown (blk_cell HL.out.1 3); have e4 := cell_regrown (blk_cell HL.out.1 4)
      simp at e0 e1 e2 e3 e4
      clear c0 c1 c2 c3 c4 d0 d1 d2 d3 d4
      obtain ⟨c0, c1, c2, c3, c4⟩ := (HM.out.1.grown HL.out.2).2.2 k hkn
      rw [HX.out.2.2.2.2] at c0 c1 c2 c3 c4
      dsimp only at c0 c1 c2 c3 c4
      replace c0 := cell_regrown c0; replace c1 := cell_regrown c1; replace c2 := cell_regrown c2; replace c3 := cell_regrown c3; replace c4 := cell_regrown c4
      by_cases q2 : ltK (ky (r0, r1, r2, r3, r4)) (ky (x0, x1, x2, x3, x4))
      case neg =>
        have heq : ky (x0, x1, x2, x3, x4) = ky (r0, r1, r2, r3, r4) := by
          rcases ltK_tri (ky (x0, x1, x2, x3, x4)) (ky (r0, r1, r2, r3, r4)) with h | h | h
          · exact absurd h q
          · exact h
          · exact absurd h q2
        have E := Lib.hid (addC_bad (i := k) (r := (r0, r1, r2, r3, r4)) HR.out (.inl (HX.out.2.2.1 heq)))
        clear heq
        go_wp2
        refine wp_region_quiet_below (by kernel_rfl) (by kernel_rfl) ?_
        repeat (go_big_quiet_step (((go_at_call 26; with_reducible exact Calls.regrown_of (rless_f (r0, r1, r2, r3, r4) (x0, x1, x2, x3, x4) _ q2)))))
        refine wpQuiet_nil ?_
        intro WF hf'
        have hf := of_regrown hf'
        clear hf'
        go_wp2
        exact bodyPost_ret (v := .tuple #[.slice none 0 0, .int .i64 420]) (by simp [results, Try.results11, go_sem]) rfl (AddP.err (fun _ => HPos.out) E.out (by decide) (below_after HL.out.2 hf hbL))
      have HKf := Lib.hid (HX.out.2.2.2.1 fun e => by rw [e] at q2; exact ltK_irr q2)
      go_wp2
      refine wp_region_quiet_below (by kernel_rfl) (by kernel_rfl) ?_
      repeat (go_big_quiet_step (((go_at_call 26; with_reducible exact Calls.regrown_of (rless_t (r0, r1, r2, r3, r4) (x0, x1, x2, x3, x4) _ q2)))))
      refine wpQuiet_nil ?_
      intro WF hf'
      have hf := of_regrown hf'
      clear hf'
      have HT := Lib.hid (show _ ∧ _ from ⟨blk_below HL.out.1 hf hlL, below_after HL.out.2 hf hbL⟩)
      clear hf hl c0 c1 c2 c3 c4 e0 e1 e2 e3 e4
      have hblT := (Array.getElem?_eq_some_iff.1 HT.out.1).1
      by_cases h256 : n = 256
      · have E := Lib.hid (addC_many (i := k) (r := (r0, r1, r2, r3, r4)) HR.out HKf.out HV.out (by rw [HM.out.2.2]; exact h256))
        have z : ((n : Int) == 256) = true := by simp; omega
        have z2 : decide ((n : Int) = 256) = true := by simp; omega
        clear h256
        go_wp2
        exact bodyPost_ret (v := .tuple #[.slice none 0 0, .int .i64 2]) (by simp [results, Try.results11, go_sem]) rfl (AddP.err (fun _ => HPos.out) E.out (by decide) HT.out.2)
      have E := Lib.hid (addC_ok (i := k) (r := (r0, r1, r2, r3, r4)) HR.out HKf.out HV.out (by rw [HM.out.2.2]; exact h256))
      have z : ((n : Int) == 256) = false := by simp; omega
      have z2 : decide ((n : Int) = 256) = false := by simp; omega
      have hlt256 : n < 256 := by omega
      clear h256
      go_upto_region 13 with fail
      clear z z2
      have hkc : ¬ cap < k := by omega
      go_cut [8] from 47 to 55 (fun o wx => ∃ v9, o = v9 ∧ RsO wx WF.heap.size v9 (l.take k ++ [(r0, r1, r2, r3, r4)]) ∧ Below WF.heap.size WF wx)
      case first =>
        refine wp_region_from 1 3 (fun w' => Below (WF).heap.size (WF) w') (by kernel_rfl) (by kernel_rfl) (by decide) (by kernel_rfl) ((Below.refl _ _).drew) ?_
        simp only [List.drop_succ_cons, List.drop_zero, List.take_succ_cons, List.take_zero]
        refine wpHeld_cons (.slice (some ⟨b, off, none⟩) n cap) (by kernel_rfl) ?_ ?_
        · intro w' s
          try go_simp
        refine wpHeld_cons (.int .i64 (k : Int)) (by kernel_rfl) ?_ ?_
        · intro w' s
          try go_simp
        refine wpHeld_cons (.slice (some ⟨b, off, none⟩) k cap) (by kernel_rfl) ?_ ?_
        · intro w' s
          try go_simp
        refine wpHeld_nil ?_
        go_simp
        refine wpAnyH_from (fuel := 5) 5 1 (fun _ _ _ _ _ h => h) (by kernel_rfl) (by decide) (by kernel_rfl) ((Below.refl _ _).drew) ?_
        simp only [List.drop_succ_cons, List.drop_zero, List.take_succ_cons, List.take_zero]
        refine wpHeld_cons (.agg #[.int .i64 r0, .int .i64 r1, .int .i64 r2, .int .i64 r3, .int .i64 r4]) (by kernel_rfl) ?_ ?_
        · intro w' s
          have y0 := (blk_cell (blk_below HT.out.1 s hblT) 0)
          have y1 := (blk_cell (blk_below HT.out.1 s hblT) 1)
          have y2 := (blk_cell (blk_below HT.out.1 s hblT) 2)
          have y3 := (blk_cell (blk_below HT.out.1 s hblT) 3)
          have y4 := (blk_cell (blk_below HT.out.1 s hblT) 4)
          simp at y0 y1 y2 y3 y4
          try go_simp
        refine wpHeld_nil ?_
        go_simp
        refine wpAnyH_two (i := 0) (j := 6) (by kernel_rfl) rfl rfl (by kernel_rfl) (by kernel_rfl) (fun K' hK' => ?_) (fun K' hK' => ?_)
        · go_simp
          have HE := Lib.hid (show RsO (((WF).alloc (.cells #[] 24)).drew) (WF).heap.size (.slice (some ⟨(WF).heap.size, 0, none⟩) 0 0) [] ∧ Below (WF).heap.size (WF) (((WF).alloc (.cells #[] 24)).drew) ∧ (((WF).alloc (.cells #[] 24)).drew).heap.size = (WF).heap.size + 1 from ⟨(RsO.empty (WF)).below (Below.refl _ _).drew (Nat.le_refl _), ((Below.refl _ _).alloc (Nat.le_refl _) _).drew, by simp⟩)
          generalize ((WF).alloc (.cells #[] 24)).drew = WE at *
          refine hK' _ _ (HE.out.2.1) ?_
          clear hK' K'
          go_simp
          refine wpAnyH_two (i := 4) (j := 6) (by kernel_rfl) rfl rfl (by kernel_rfl) (by kernel_rfl) (fun K' hK' => ?_) (fun K' hK' => ?_)
          · refine wp_append_Rs (.tmp 47) (.tmp 50) (by rfl) (WF).heap.size (.slice (some ⟨(WF).heap.size, 0, none⟩) 0 0) [] (by rfl) HE.out.1 (some ⟨b, off, none⟩) b off k cap (l.take k) (by rfl) ((HM.out.1.grown (below_after HT.out.2 HE.out.2.1 HT.out.2.size)).pre (by omega)) HM.out.2.1 (by simp; omega) HE.out.2.1.size ?_
            intro v4 W4 hO4 hB4 hG4
            rw [List.nil_append] at hO4
            have HA4 := Lib.hid (show RsO W4 (WF).heap.size v4 (l.take k) ∧ Below (WF).heap.size (WF) W4 from ⟨hO4, HE.out.2.1.trans hB4⟩)
            clear hO4 hB4 hG4
            refine hK' _ _ (HA4.out.2) ?_
            clear hK' K'
            go_simp
            refine wpAnyH_one (i := 6) (by kernel_rfl) rfl (by kernel_rfl) (fun K' hK' => ?_)
            go_simp
            have HB6 := Lib.hid (show RsO (W4.alloc (.cells #[.int .i64 r0, .int .i64 r1, .int .i64 r2, .int .i64 r3, .int .i64 r4] 24)) (WF).heap.size v4 (l.take k) ∧ Below (WF).heap.size (WF) (W4.alloc (.cells #[.int .i64 r0, .int .i64 r1, .int .i64 r2, .int .i64 r3, .int .i64 r4] 24)) ∧ (W4.alloc (.cells #[.int .i64 r0, .int .i64 r1, .int .i64 r2, .int .i64 r3, .int .i64 r4] 24)).heap[W4.heap.size]? = some (.cells (encR (r0, r1, r2, r3, r4)).toArray 24 (0, 0)) from ⟨HA4.out.1.alloc _, HA4.out.2.alloc HA4.out.2.size _, blk_new _ _⟩)
            have hq6 : W4.heap.size < (W4.alloc (.cells #[.int .i64 r0, .int .i64 r1, .int .i64 r2, .int .i64 r3, .int .i64 r4] 24)).heap.size := by simp
            generalize W4.alloc (.cells #[.int .i64 r0, .int .i64 r1, .int .i64 r2, .int .i64 r3, .int .i64 r4] 24) = W6 at *
            refine hK' _ _ (HB6.out.2.1) ?_
            clear hK' K'
            go_simp
            refine wpAnyH_one (i := 7) (by kernel_rfl) rfl (by kernel_rfl) (fun K' hK' => ?_)
            refine wp_append_R (.tmp 51) (.tmp 53) (by rfl) (WF).heap.size v4 (l.take k) (by rfl) HB6.out.1 W4.heap.size (r0, r1, r2, r3, r4) (by rfl) 24 (0, 0) HB6.out.2.2 (by have := List.length_take_le k l; have := HM.out.2.2; omega) HB6.out.2.1.size ?_
            intro v9 W9 hO9 hB9 hG9
            have HF := Lib.hid (show RsO W9 (WF).heap.size v9 (l.take k ++ [(r0, r1, r2, r3, r4)]) ∧ Below (WF).heap.size (WF) W9 from ⟨hO9, HB6.out.2.1.trans hB9⟩)
            clear hO9 hB9 hG9
            refine hK' _ _ (HF.out.2) ?_
            clear hK' K'
            go_simp
            refine wpAnyH_one (i := 8) (by kernel_rfl) rfl (by kernel_rfl) (fun K' hK' => ?_)
            go_simp
            refine hK' _ _ (HF.out.2) ?_
            clear hK' K'
            go_simp
            refine wpAnyH_done (by kernel_rfl) ?_ _
            refine NoPanic.normal ?_
            go_simp
            go_wp2_with fail
            go_meet
            case rel => exact ⟨v9, rfl, HF.out.1, HF.out.2⟩
          · go_simp
            have HB6 := Lib.hid (show RsO (WE.alloc (.cells #[.int .i64 r0, .int .i64 r1, .int .i64 r2, .int .i64 r3, .int .i64 r4] 24)) (WF).heap.size (.slice (some ⟨(WF).heap.size, 0, none⟩) 0 0) [] ∧ Below (WF).heap.size (WF) (WE.alloc (.cells #[.int .i64 r0, .int .i64 r1, .int .i64 r2, .int .i64 r3, .int .i64 r4] 24)) ∧ (WE.alloc (.cells #[.int .i64 r0, .int .i64 r1, .int .i64 r2, .int .i64 r3, .int .i64 r4] 24)).heap[WE.heap.size]? = some (.cells (encR (r0, r1, r2, r3, r4)).toArray 24 (0, 0)) from ⟨HE.out.1.alloc _, HE.out.2.1.alloc HE.out.2.1.size _, blk_new _ _⟩)
            have hq6 : WE.heap.size < (WE.alloc (.cells #[.int .i64 r0, .int .i64 r1, .int .i64 r2, .int .i64 r3, .int .i64 r4] 24)).heap.size := by simp
            generalize WE.alloc (.cells #[.int .i64 r0, .int .i64 r1, .int .i64 r2, .int .i64 r3, .int .i64 r4] 24) = W6 at *
            refine hK' _ _ (HB6.out.2.1) ?_
            clear hK' K'
            go_simp
            refine wpAnyH_one (i := 4) (by kernel_rfl) rfl (by kernel_rfl) (fun K' hK' => ?_)
            refine wp_append_Rs (.tmp 47) (.tmp 50) (by rfl) (WF).heap.size (.slice (some ⟨(WF).heap.size, 0, none⟩) 0 0) [] (by rfl) HB6.out.1 (some ⟨b, off, none⟩) b off k cap (l.take k) (by rfl) ((HM.out.1.grown (below_after HT.out.2 HB6.out.2.1 HT.out.2.size)).pre (by omega)) HM.out.2.1 (by simp; omega) HB6.out.2.1.size ?_
            intro v4 W4 hO4 hB4 hG4
            rw [List.nil_append] at hO4
            have HA4 := Lib.hid (show RsO W4 (WF).heap.size v4 (l.take k) ∧ Below (WF).heap.size (WF) W4 ∧ W4.heap[WE.heap.size]? = some (.cells (encR (r0, r1, r2, r3, r4)).toArray 24 (0, 0)) from ⟨hO4, HB6.out.2.1.trans hB4, (grown_other hG4 HB6.out.2.2 (fun e => by have h5 := own_at e; have := HE.out.2.2; omega))⟩)
            clear hO4 hB4 hG4
            refine hK' _ _ (HA4.out.2.1) ?_
            clear hK' K'
            go_simp
            refine wpAnyH_one (i := 7) (by kernel_rfl) rfl (by kernel_rfl) (fun K' hK' => ?_)
            refine wp_append_R (.tmp 51) (.tmp 53) (by rfl) (WF).heap.size v4 (l.take k) (by rfl) HA4.out.1 WE.heap.size (r0, r1, r2, r3, r4) (by rfl) 24 (0, 0) HA4.out.2.2 (by have := List.length_take_le k l; have := HM.out.2.2; omega) HA4.out.2.1.size ?_
            intro v9 W9 hO9 hB9 hG9
            have HF := Lib.hid (show RsO W9 (WF).heap.size v9 (l.take k ++ [(r0, r1, r2, r3, r4)]) ∧ Below (WF).heap.size (WF) W9 from ⟨hO9, HA4.out.2.1.trans hB9⟩)
            clear hO9 hB9 hG9
            refine hK' _ _ (HF.out.2) ?_
            clear hK' K'
            go_simp
            refine wpAnyH_one (i := 8) (by kernel_rfl) rfl (by kernel_rfl) (fun K' hK' => ?_)
            go_simp
            refine hK' _ _ (HF.out.2) ?_
            clear hK' K'
            go_simp
            refine wpAnyH_done (by kernel_rfl) ?_ _
            refine NoPanic.normal ?_
            go_simp
            go_wp2_with fail
            go_meet
            case rel => exact ⟨v9, rfl, HF.out.1, HF.out.2⟩
        · go_simp
          have HQ := Lib.hid (show Below (WF).heap.size (WF) (((WF).alloc (.cells #[.int .i64 r0, .int .i64 r1, .int .i64 r2, .int .i64 r3, .int .i64 r4] 24)).drew) ∧ (((WF).alloc (.cells #[.int .i64 r0, .int .i64 r1, .int .i64 r2, .int .i64 r3, .int .i64 r4] 24)).drew).heap[(WF).heap.size]? = some (.cells (encR (r0, r1, r2, r3, r4)).toArray 24 (0, 0)) ∧ (((WF).alloc (.cells #[.int .i64 r0, .int .i64 r1, .int .i64 r2, .int .i64 r3, .int .i64 r4] 24)).drew).heap.size = (WF).heap.size + 1 from ⟨((Below.refl _ _).alloc (Nat.le_refl _) _).drew, blk_drew (blk_new (WF) _), by simp⟩)
          generalize ((WF).alloc (.cells #[.int .i64 r0, .int .i64 r1, .int .i64 r2, .int .i64 r3, .int .i64 r4] 24)).drew = WB at *
          refine hK' _ _ (HQ.out.1) ?_
          clear hK' K'
          go_simp
          refine wpAnyH_one (i := 0) (by kernel_rfl) rfl (by kernel_rfl) (fun K' hK' => ?_)
          go_simp
          have HE := Lib.hid (show RsO (WB.alloc (.cells #[] 24)) (WF).heap.size (.slice (some ⟨WB.heap.size, 0, none⟩) 0 0) [] ∧ Below (WF).heap.size (WF) (WB.alloc (.cells #[] 24)) ∧ (WB.alloc (.cells #[] 24)).heap[(WF).heap.size]? = some (.cells (encR (r0, r1, r2, r3, r4)).toArray 24 (0, 0)) from ⟨(RsO.empty WB).mono HQ.out.1.size, HQ.out.1.alloc HQ.out.1.size _, blk_alloc HQ.out.2.1 _⟩)
          generalize WB.alloc (.cells #[] 24) = WE at *
          refine hK' _ _ (HE.out.2.1) ?_
          clear hK' K'
          go_simp
          refine wpAnyH_one (i := 4) (by kernel_rfl) rfl (by kernel_rfl) (fun K' hK' => ?_)
          refine wp_append_Rs (.tmp 47) (.tmp 50) (by rfl) (WF).heap.size (.slice (some ⟨WB.heap.size, 0, none⟩) 0 0) [] (by rfl) HE.out.1 (some ⟨b, off, none⟩) b off k cap (l.take k) (by rfl) ((HM.out.1.grown (below_after HT.out.2 HE.out.2.1 HT.out.2.size)).pre (by omega)) HM.out.2.1 (by simp; omega) HE.out.2.1.size ?_
          intro v4 W4 hO4 hB4 hG4
          rw [List.nil_append] at hO4
          have HA4 := Lib.hid (show RsO W4 (WF).heap.size v4 (l.take k) ∧ Below (WF).heap.size (WF) W4 ∧ W4.heap[(WF).heap.size]? = some (.cells (encR (r0, r1, r2, r3, r4)).toArray 24 (0, 0)) from ⟨hO4, HE.out.2.1.trans hB4, (grown_other hG4 HE.out.2.2 (fun e => by have h5 := own_at e; have := HQ.out.2.2; omega))⟩)
          clear hO4 hB4 hG4
          refine hK' _ _ (HA4.out.2.1) ?_
          clear hK' K'
          go_simp
          refine wpAnyH_one (i := 7) (by kernel_rfl) rfl (by kernel_rfl) (fun K' hK' => ?_)
          refine wp_append_R (.tmp 51) (.tmp 53) (by rfl) (WF).heap.size v4 (l.take k) (by rfl) HA4.out.1 (WF).heap.size (r0, r1, r2, r3, r4) (by rfl) 24 (0, 0) HA4.out.2.2 (by have := List.length_take_le k l; have := HM.out.2.2; omega) HA4.out.2.1.size ?_
          intro v9 W9 hO9 hB9 hG9
          have HF := Lib.hid (show RsO W9 (WF).heap.size v9 (l.take k ++ [(r0, r1, r2, r3, r4)]) ∧ Below (WF).heap.size (WF) W9 from ⟨hO9, HA4.out.2.1.trans hB9⟩)
          clear hO9 hB9 hG9
          refine hK' _ _ (HF.out.2) ?_
          clear hK' K'
          go_simp
          refine wpAnyH_one (i := 8) (by kernel_rfl) rfl (by kernel_rfl) (fun K' hK' => ?_)
          go_simp
          refine hK' _ _ (HF.out.2) ?_
          clear hK' K'
          go_simp
          refine wpAnyH_done (by kernel_rfl) ?_ _
          refine NoPanic.normal ?_
          go_simp
          go_wp2_with fail
          go_meet
          case rel => exact ⟨v9, rfl, HF.out.1, HF.out.2⟩
      case rest =>
        obtain ⟨v9, rfl, hO9, hF⟩ := hcut
        have HF := Lib.hid (show _ ∧ _ from ⟨hO9, hF⟩)
        clear hO9 hF
        have ht1 : ¬ n < k := by omega
        have hck : ¬ cap = k := by omega
        have hRd : Rs w (some ⟨b, off + k * 5, none⟩) (n - k) b (off + k * 5) (l.drop k) := rs_drop HM.out.1 k (by omega)
        have HRD := Lib.hid (hRd.grown (below_after HT.out.2 HF.out.2 HT.out.2.size))
        clear hRd
        go_wp2_with (at_builtin; refine wpList_append_Rs rfl (.tmp 55) (.tmp 58) rfl WF.heap.size _ _ rfl HF.out.1 (some ⟨b, off + k * 5, none⟩) b (off + k * 5) (n - k) (cap - k) (l.drop k) (by simp [go_sem]) HRD.out (fun h => by cases h) (by simp; have := HM.out.2.2; omega) HF.out.2.size ?_; intro v' w' h1 h2 _)
        exact bodyPost_ret (v := .tuple #[v', .int .i64 0]) (by simp [results, Try.results11, go_sem]) rfl (AddP.ok (fun _ => HPos.out) E.out (by unfold insR; exact h1.mono HT.out.2.size) (below_after HT.out.2 (HF.out.2.trans h2) HT.out.2.size))
    obtain rfl : k = n := by omega
    have HPos := Lib.hid (pos_of HR.out.2 (Nat.le_of_eq HM.out.2.2.symm) HK.out.1 fun h => absurd h (by rw [HM.out.2.2]; omega))
    have HKf := Lib.hid (hasK_f (l := l) (i := k) (k := ky (r0, r1, r2, r3, r4)) fun h => absurd h (by rw [HM.out.2.2]; omega))
    have hkk : decide ((k : Int) < k) = false := by simp
    go_wp2
    refine wp_region_quiet_below (by kernel_rfl) (by kernel_rfl) ?_
    repeat (go_big_quiet_step ((fail)))
    refine wpQuiet_nil ?_
    intro WL hl'
    have hl := of_regrown hl'
    clear hl'
    go_wp2
    refine wp_region_quiet_below (by kernel_rfl) (by kernel_rfl) ?_
    repeat (go_big_quiet_step ((fail)))
    refine wpQuiet_nil ?_
    intro WF hf'
    have hf := of_regrown hf'
    clear hf'
    have HL := Lib.hid (show _ ∧ _ from ⟨blk_below HK.out.2.1 hl hbl, below_after HK.out.2.2 hl hb0⟩)
    have HT := Lib.hid (show _ ∧ _ from ⟨blk_below HL.out.1 hf (Array.getElem?_eq_some_iff.1 HL.out.1).1, below_after HL.out.2 hf HL.out.2.size⟩)
    clear hf hl hkk d0 d1 d2 d3 d4
    have hblT := (Array.getElem?_eq_some_iff.1 HT.out.1).1
    by_cases h256 : k = 256
    · have E := Lib.hid (addC_many (i := k) (r := (r0, r1, r2, r3, r4)) HR.out HKf.out HV.out (by rw [HM.out.2.2]; exact h256))
      have z : ((k : Int) == 256) = true := by simp; omega
      have z2 : decide ((k : Int) = 256) = true := by simp; omega
      clear h256
      go_wp2
      exact bodyPost_ret (v := .tuple #[.slice none 0 0, .int .i64 2]) (by simp [results, Try.results11, go_sem]) rfl (AddP.err (fun _ => HPos.out) E.out (by decide) HT.out.2)
    have E := Lib.hid (addC_ok (i := k) (r := (r0, r1, r2, r3, r4)) HR.out HKf.out HV.out (by rw [HM.out.2.2]; exact h256))
    have z : ((k : Int) == 256) = false := by simp; omega
    have z2 : decide ((k : Int) = 256) = false := by simp; omega
    have hlt256 : k < 256 := by omega
    clear h256
    go_upto_region 13 with fail
    clear z z2
    have hkc : ¬ cap < k := by omega
    go_cut [8] from 47 to 55 (fun o wx => ∃ v9, o = v9 ∧ RsO wx WF.heap.size v9 (l.take k ++ [(r0, r1, r2, r3, r4)]) ∧ Below WF.heap.size WF wx)
    case first =>
      refine wp_region_from 1 3 (fun w' => Below (WF).heap.size (WF) w') (by kernel_rfl) (by kernel_rfl) (by decide) (by kernel_rfl) ((Below.refl _ _).drew) ?_
      simp only [List.drop_succ_cons, List.drop_zero, List.take_succ_cons, List.take_zero]
      refine wpHeld_cons (.slice a k cap) (by kernel_rfl) ?_ ?_
      · intro w' s
        try go_simp
      refine wpHeld_cons (.int .i64 (k : Int)) (by kernel_rfl) ?_ ?_
      · intro w' s
        try go_simp
      refine wpHeld_cons (.slice a k cap) (by kernel_rfl) ?_ ?_
      · intro w' s
        try go_simp
      refine wpHeld_nil ?_
      go_simp
      refine wpAnyH_from (fuel := 5) 5 1 (fun _ _ _ _ _ h => h) (by kernel_rfl) (by decide) (by kernel_rfl) ((Below.refl _ _).drew) ?_
      simp only [List.drop_succ_cons, List.drop_zero, List.take_succ_cons, List.take_zero]
      refine wpHeld_cons (.agg #[.int .i64 r0, .int .i64 r1, .int .i64 r2, .int .i64 r3, .int .i64 r4]) (by kernel_rfl) ?_ ?_
      · intro w' s
        have y0 := (blk_cell (blk_below HT.out.1 s hblT) 0)
        have y1 := (blk_cell (blk_below HT.out.1 s hblT) 1)
        have y2 := (blk_cell (blk_below HT.out.1 s hblT) 2)
        have y3 := (blk_cell (blk_below HT.out.1 s hblT) 3)
        have y4 := (blk_cell (blk_below HT.out.1 s hblT) 4)
        simp at y0 y1 y2 y3 y4
        try go_simp
      refine wpHeld_nil ?_
      go_simp
      refine wpAnyH_two (i := 0) (j := 6) (by kernel_rfl) rfl rfl (by kernel_rfl) (by kernel_rfl) (fun K' hK' => ?_) (fun K' hK' => ?_)
      · go_simp
        have HE := Lib.hid (show RsO (((WF).alloc (.cells #[] 24)).drew) (WF).heap.size (.slice (some ⟨(WF).heap.size, 0, none⟩) 0 0) [] ∧ Below (WF).heap.size (WF) (((WF).alloc (.cells #[] 24)).drew) ∧ (((WF).alloc (.cells #[] 24)).drew).heap.size = (WF).heap.size + 1 from ⟨(RsO.empty (WF)).below (Below.refl _ _).drew (Nat.le_refl _), ((Below.refl _ _).alloc (Nat.le_refl _) _).drew, by simp⟩)
        generalize ((WF).alloc (.cells #[] 24)).drew = WE at *
        refine hK' _ _ (HE.out.2.1) ?_
        clear hK' K'
        go_simp
        refine wpAnyH_two (i := 4) (j := 6) (by kernel_rfl) rfl rfl (by kernel_rfl) (by kernel_rfl) (fun K' hK' => ?_) (fun K' hK' => ?_)
        · refine wp_append_Rs (.tmp 47) (.tmp 50) (by rfl) (WF).heap.size (.slice (some ⟨(WF).heap.size, 0, none⟩) 0 0) [] (by rfl) HE.out.1 a b off k cap (l.take k) (by rfl) ((HM.out.1.grown (below_after HT.out.2 HE.out.2.1 HT.out.2.size)).pre (by omega)) HM.out.2.1 (by simp; omega) HE.out.2.1.size ?_
          intro v4 W4 hO4 hB4 hG4
          rw [List.nil_append] at hO4
          have HA4 := Lib.hid (show RsO W4 (WF).heap.size v4 (l.take k) ∧ Below (WF).heap.size (WF) W4 from ⟨hO4, HE.out.2.1.trans hB4⟩)
          clear hO4 hB4 hG4
          refine hK' _ _ (HA4.out.2) ?_
          clear hK' K'
          go_simp
          refine wpAnyH_one (i := 6) (by kernel_rfl) rfl (by kernel_rfl) (fun K' hK' => ?_)
          go_simp
          have HB6 := Lib.hid (show RsO (W4.alloc (.cells #[.int .i64 r0, .int .i64 r1, .int .i64 r2, .int .i64 r3, .int .i64 r4] 24)) (WF).heap.size v4 (l.take k) ∧ Below (WF).heap.size (WF) (W4.alloc (.cells #[.int .i64 r0, .int .i64 r1, .int .i64 r2, .int .i64 r3, .int .i64 r4] 24)) ∧ (W4.alloc (.cells #[.int .i64 r0, .int .i64 r1, .int .i64 r2, .int .i64 r3, .int .i64 r4] 24)).heap[W4.heap.size]? = some (.cells (encR (r0, r1, r2, r3, r4)).toArray 24 (0, 0)) from ⟨HA4.out.1.alloc _, HA4.out.2.alloc HA4.out.2.size _, blk_new _ _⟩)
          have hq6 : W4.heap.size < (W4.alloc (.cells #[.int .i64 r0, .int .i64 r1, .int .i64 r2, .int .i64 r3, .int .i64 r4] 24)).heap.size := by simp
          generalize W4.alloc (.cells #[.int .i64 r0, .int .i64 r1, .int .i64 r2, .int .i64 r3, .int .i64 r4] 24) = W6 at *
          refine hK' _ _ (HB6.out.2.1) ?_
          clear hK' K'
          go_simp
          refine wpAnyH_one (i := 7) (by kernel_rfl) rfl (by kernel_rfl) (fun K' hK' => ?_)
          refine wp_append_R (.tmp 51) (.tmp 53) (by rfl) (WF).heap.size v4 (l.take k) (by rfl) HB6.out.1 W4.heap.size (r0, r1, r2, r3, r4) (by rfl) 24 (0, 0) HB6.out.2.2 (by have := List.length_take_le k l; have := HM.out.2.2; omega) HB6.out.2.1.size ?_
          intro v9 W9 hO9 hB9 hG9
          have HF := Lib.hid (show RsO W9 (WF).heap.size v9 (l.take k ++ [(r0, r1, r2, r3, r4)]) ∧ Below (WF).heap.size (WF) W9 from ⟨hO9, HB6.out.2.1.trans hB9⟩)
          clear hO9 hB9 hG9
          refine hK' _ _ (HF.out.2) ?_
          clear hK' K'
          go_simp
          refine wpAnyH_one (i := 8) (by kernel_rfl) rfl (by kernel_rfl) (fun K' hK' => ?_)
          go_simp
          refine hK' _ _ (HF.out.2) ?_
          clear hK' K'
          go_simp
          refine wpAnyH_done (by kernel_rfl) ?_ _
          refine NoPanic.normal ?_
          go_simp
          go_wp2_with fail
          go_meet
          case rel => exact ⟨v9, rfl, HF.out.1, HF.out.2⟩
        · go_simp
          have HB6 := Lib.hid (show RsO (WE.alloc (.cells #[.int .i64 r0, .int .i64 r1, .int .i64 r2, .int .i64 r3, .int .i64 r4] 24)) (WF).heap.size (.slice (some ⟨(WF).heap.size, 0, none⟩) 0 0) [] ∧ Below (WF).heap.size (WF) (WE.alloc (.cells #[.int .i64 r0, .int .i64 r1, .int .i64 r2, .int .i64 r3, .int .i64 r4] 24)) ∧ (WE.alloc (.cells #[.int .i64 r0, .int .i64 r1, .int .i64 r2, .int .i64 r3, .int .i64 r4] 24)).heap[WE.heap.size]? = some (.cells (encR (r0, r1, r2, r3, r4)).toArray 24 (0, 0)) from ⟨HE.out.1.alloc _, HE.out.2.1.alloc HE.out.2.1.size _, blk_new _ _⟩)
          have hq6 : WE.heap.size < (WE.alloc (.cells #[.int .i64 r0, .int .i64 r1, .int .i64 r2, .int .i64 r3, .int .i64 r4] 24)).heap.size := by simp
          generalize WE.alloc (.cells #[.int .i64 r0, .int .i64 r1, .int .i64 r2, .int .i64 r3, .int .i64 r4] 24) = W6 at *
          refine hK' _ _ (HB6.out.2.1) ?_
          clear hK' K'
          go_simp
          refine wpAnyH_one (i := 4) (by kernel_rfl) rfl (by kernel_rfl) (fun K' hK' => ?_)
          refine wp_append_Rs (.tmp 47) (.tmp 50) (by rfl) (WF).heap.size (.slice (some ⟨(WF).heap.size, 0, none⟩) 0 0) [] (by rfl) HB6.out.1 a b off k cap (l.take k) (by rfl) ((HM.out.1.grown (below_after HT.out.2 HB6.out.2.1 HT.out.2.size)).pre (by omega)) HM.out.2.1 (by simp; omega) HB6.out.2.1.size ?_
          intro v4 W4 hO4 hB4 hG4
          rw [List.nil_append] at hO4
          have HA4 := Lib.hid (show RsO W4 (WF).heap.size v4 (l.take k) ∧ Below (WF).heap.size (WF) W4 ∧ W4.heap[WE.heap.size]? = some (.cells (encR (r0, r1, r2, r3, r4)).toArray 24 (0, 0)) from ⟨hO4, HB6.out.2.1.trans hB4, (grown_other hG4 HB6.out.2.2 (fun e => by have h5 := own_at e; have := HE.out.2.2; omega))⟩)
          clear hO4 hB4 hG4
          refine hK' _ _ (HA4.out.2.1) ?_
          clear hK' K'
          go_simp
          refine wpAnyH_one (i := 7) (by kernel_rfl) rfl (by kernel_rfl) (fun K' hK' => ?_)
          refine wp_append_R (.tmp 51) (.tmp 53) (by rfl) (WF).heap.size v4 (l.take k) (by rfl) HA4.out.1 WE.heap.size (r0, r1, r2, r3, r4) (by rfl) 24 (0, 0) HA4.out.2.2 (by have := List.length_take_le k l; have := HM.out.2.2; omega) HA4.out.2.1.size ?_
          intro v9 W9 hO9 hB9 hG9
          have HF := Lib.hid (show RsO W9 (WF).heap.size v9 (l.take k ++ [(r0, r1, r2, r3, r4)]) ∧ Below (WF).heap.size (WF) W9 from ⟨hO9, HA4.out.2.1.trans hB9⟩)
          clear hO9 hB9 hG9
          refine hK' _ _ (HF.out.2) ?_
          clear hK' K'
          go_simp
          refine wpAnyH_one (i := 8) (by kernel_rfl) rfl (by kernel_rfl) (fun K' hK' => ?_)
          go_simp
          refine hK' _ _ (HF.out.2) ?_
          clear hK' K'
          go_simp
          refine wpAnyH_done (by kernel_rfl) ?_ _
          refine NoPanic.normal ?_
          go_simp
          go_wp2_with fail
          go_meet
          case rel => exact ⟨v9, rfl, HF.out.1, HF.out.2⟩
      · go_simp
        have HQ := Lib.hid (show Below (WF).heap.size (WF) (((WF).alloc (.cells #[.int .i64 r0, .int .i64 r1, .int .i64 r2, .int .i64 r3, .int .i64 r4] 24)).drew) ∧ (((WF).alloc (.cells #[.int .i64 r0, .int .i64 r1, .int .i64 r2, .int .i64 r3, .int .i64 r4] 24)).drew).heap[(WF).heap.size]? = some (.cells (encR (r0, r1, r2, r3, r4)).toArray 24 (0, 0)) ∧ (((WF).alloc (.cells #[.int .i64 r0, .int .i64 r1, .int .i64 r2, .int .i64 r3, .int .i64 r4] 24)).drew).heap.size = (WF).heap.size + 1 from ⟨((Below.refl _ _).alloc (Nat.le_refl _) _).drew, blk_drew (blk_new (WF) _), by simp⟩)
        generalize ((WF).alloc (.cells #[.int .i64 r0, .int .i64 r1, .int .i64 r2, .int .i64 r3, .int .i64 r4] 24)).drew = WB at *
        refine hK' _ _ (HQ.out.1) ?_
        clear hK' K'
        go_simp
        refine wpAnyH_one (i := 0) (by kernel_rfl) rfl (by kernel_rfl) (fun K' hK' => ?_)
        go_simp
        have HE := Lib.hid (show RsO (WB.alloc (.cells #[] 24)) (WF).heap.size (.slice (some ⟨WB.heap.size, 0, none⟩) 0 0) [] ∧ Below (WF).heap.size (WF) (WB.alloc (.cells #[] 24)) ∧ (WB.alloc (.cells #[] 24)).heap[(WF).heap.size]? = some (.cells (encR (r0, r1, r2, r3, r4)).toArray 24 (0, 0)) from ⟨(RsO.empty WB).mono HQ.out.1.size, HQ.out.1.alloc HQ.out.1.size _, blk_alloc HQ.out.2.1 _⟩)
        generalize WB.alloc (.cells #[] 24) = WE at *
        refine hK' _ _ (HE.out.2.1) ?_
        clear hK' K'
        go_simp
        refine wpAnyH_one (i := 4) (by kernel_rfl) rfl (by kernel_rfl) (fun K' hK' => ?_)
        refine wp_append_Rs (.tmp 47) (.tmp 50) (by rfl) (WF).heap.size (.slice (some ⟨WB.heap.size, 0, none⟩) 0 0) [] (by rfl) HE.out.1 a b off k cap (l.take k) (by rfl) ((HM.out.1.grown (below_after HT.out.2 HE.out.2.1 HT.out.2.size)).pre (by omega)) HM.out.2.1 (by simp; omega) HE.out.2.1.size ?_
        intro v4 W4 hO4 hB4 hG4
        rw [List.nil_append] at hO4
        have HA4 := Lib.hid (show RsO W4 (WF).heap.size v4 (l.take k) ∧ Below (WF).heap.size (WF) W4 ∧ W4.heap[(WF).heap.size]? = some (.cells (encR (r0, r1, r2, r3, r4)).toArray 24 (0, 0)) from ⟨hO4, HE.out.2.1.trans hB4, (grown_other hG4 HE.out.2.2 (fun e => by have h5 := own_at e; have := HQ.out.2.2; omega))⟩)
        clear hO4 hB4 hG4
        refine hK' _ _ (HA4.out.2.1) ?_
        clear hK' K'
        go_simp
        refine wpAnyH_one (i := 7) (by kernel_rfl) rfl (by kernel_rfl) (fun K' hK' => ?_)
        refine wp_append_R (.tmp 51) (.tmp 53) (by rfl) (WF).heap.size v4 (l.take k) (by rfl) HA4.out.1 (WF).heap.size (r0, r1, r2, r3, r4) (by rfl) 24 (0, 0) HA4.out.2.2 (by have := List.length_take_le k l; have := HM.out.2.2; omega) HA4.out.2.1.size ?_
        intro v9 W9 hO9 hB9 hG9
        have HF := Lib.hid (show RsO W9 (WF).heap.size v9 (l.take k ++ [(r0, r1, r2, r3, r4)]) ∧ Below (WF).heap.size (WF) W9 from ⟨hO9, HA4.out.2.1.trans hB9⟩)
        clear hO9 hB9 hG9
        refine hK' _ _ (HF.out.2) ?_
        clear hK' K'
        go_simp
        refine wpAnyH_one (i := 8) (by kernel_rfl) rfl (by kernel_rfl) (fun K' hK' => ?_)
        go_simp
        refine hK' _ _ (HF.out.2) ?_
        clear hK' K'
        go_simp
        refine wpAnyH_done (by kernel_rfl) ?_ _
        refine NoPanic.normal ?_
        go_simp
        go_wp2_with fail
        go_meet
        case rel => exact ⟨v9, rfl, HF.out.1, HF.out.2⟩
    case rest =>
      obtain ⟨v9, rfl, hO9, hF⟩ := hcut
      have HF := Lib.hid (show _ ∧ _ from ⟨hO9, hF⟩)
      clear hO9 hF
      have ht1 : ¬ k < k := by omega
      have HI := Lib.hid (show insR l (r0, r1, r2, r3, r4) k = l.take k ++ [(r0, r1, r2, r3, r4)] ++ [] from by unfold insR; rw [List.drop_of_length_le (by have := HM.out.2.2; omega)])
      have hnn : k - k = 0 := by omega
      rcases a with _ | ⟨pb, po, pf⟩
      · obtain rfl : cap = 0 := HM.out.2.1 rfl
        obtain rfl : k = 0 := by omega
        go_wp2_with (at_builtin; refine wpList_append_Rs rfl (.tmp 55) (.tmp 58) rfl WF.heap.size _ _ rfl HF.out.1 none 0 0 0 0 [] rfl (Rs.zero _ _) (fun _ => rfl) (by have := HM.out.2.2; simp <;> omega) HF.out.2.size ?_; intro v' w' h1 h2 _)
        exact bodyPost_ret (v := .tuple #[v', .int .i64 0]) (by simp [results, Try.results11, go_sem]) rfl (AddP.ok (fun _ => HPos.out) E.out (by rw [HI.out]; exact h1.mono HT.out.2.size) (below_after HT.out.2 (HF.out.2.trans h2) HT.out.2.size))
      · by_cases hck : cap = k
        · obtain rfl := hck
          go_wp2_with (at_builtin; refine wpList_append_Rs rfl (.tmp 55) (.tmp 58) rfl WF.heap.size _ _ rfl HF.out.1 _ 0 0 0 _ [] rfl (Rs.zero _ _) (fun h => by cases h) (by have := HM.out.2.2; simp <;> omega) HF.out.2.size ?_; intro v' w' h1 h2 _)
          exact bodyPost_ret (v := .tuple #[v', .int .i64 0]) (by simp [results, Try.results11, go_sem]) rfl (AddP.ok (fun _ => HPos.out) E.out (by rw [HI.out]; exact h1.mono HT.out.2.size) (below_after HT.out.2 (HF.out.2.trans h2) HT.out.2.size))
        go_wp2_with (at_builtin; refine wpList_append_Rs rfl (.tmp 55) (.tmp 58) rfl WF.heap.size _ _ rfl HF.out.1 _ 0 0 0 _ [] rfl (Rs.zero _ _) (fun h => by cases h) (by have := HM.out.2.2; simp <;> omega) HF.out.2.size ?_; intro v' w' h1 h2 _)
        exact bodyPost_ret (v := .tuple #[v', .int .i64 0]) (by simp [results, Try.results11, go_sem]) rfl (AddP.ok (fun _ => HPos.out) E.out (by rw [HI.out]; exact h1.mono HT.out.2.size) (below_after HT.out.2 (HF.out.2.trans h2) HT.out.2.size))

end Go.Proofs.Ytjedpemjifcciaa
