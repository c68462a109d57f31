/- The reference's Check (layer 6). -/
import Derived.Test.YthgbkdaimnejeaaNetChk
namespace Go.Proofs.Ythgbkdaimnejeaa
open Go.ChangeShapes Go.WideShapes Go.ChangeAt Go.RowKit Go.Sort Go.Shelf

theorem site_t (a : Int) (w : World) (h : site a) : Calls Try.prog 33 #[.int .i64 a] w fun e w' => e = .returned (.bool true) ∧ w' = w := by have := site_any a w; rwa [decide_eq_true h] at this
theorem site_f (a : Int) (w : World) (h : ¬ site a) : Calls Try.prog 33 #[.int .i64 a] w fun e w' => e = .returned (.bool false) ∧ w' = w := by have := site_any a w; rwa [decide_eq_false h] at this
set_option maxHeartbeats 4000000 in
theorem rpacket_any (m : Kt) (w : World) : Calls Try.prog 30 #[vK m] w fun e w' => e = .returned (.bool (decide (okK m))) ∧ Below w.heap.size w w' := by
  obtain ⟨m0, m1, ma, mn, mc⟩ := m
  dsimp only [vK]
  obtain ⟨W, hW⟩ : ∃ W, W = w.alloc (.cells #[.int .i64 m0, .int .i64 m1, .slice ma mn mc] 28) := ⟨_, rfl⟩
  have hB : Below w.heap.size w W := by rw [hW]; go_grown
  have g1 : W.heap[w.heap.size]? = some (.cells #[.int .i64 m0, .int .i64 m1, .slice ma mn mc] 28 (0, 0)) := by rw [hW]; exact blk_new _ _
  have c0 := blk_cell g1 0; have c1 := blk_cell g1 1; have c2 := blk_cell g1 2
  simp at c0 c1 c2
  have H := Lib.hid hB
  clear hB g1
  go_enter Try.func30, Try.ntmps30
  go_upto_region 1 with fail
  rw [← hW]
  clear hW
  by_cases h0 : site m0
  case neg =>
    have HN := Lib.hid (show decide (okK (m0, m1, ma, mn, mc)) = false from decide_eq_false fun g => h0 g.1.2.1)
    go_wp2_with (go_at_call 33; (first | (with_reducible refine (site_t _ _ (by assumption)).mono ?_) | (with_reducible refine (site_f _ _ (by assumption)).mono ?_)); rintro e w' ⟨rfl, rfl⟩)
    exact bodyPost_ret (v := .bool false) (by simp [results, Try.results30, go_sem]) rfl ⟨by rw [HN.out], H.out⟩
  by_cases h1 : site m1
  case neg =>
    have HN := Lib.hid (show decide (okK (m0, m1, ma, mn, mc)) = false from decide_eq_false fun g => h1 g.1.2.2)
    go_wp2_with (go_at_call 33; (first | (with_reducible refine (site_t _ _ (by assumption)).mono ?_) | (with_reducible refine (site_f _ _ (by assumption)).mono ?_)); rintro e w' ⟨rfl, rfl⟩)
    exact bodyPost_ret (v := .bool false) (by simp [results, Try.results30, go_sem]) rfl ⟨by rw [HN.out], H.out⟩
  by_cases h2 : m0 = m1
  · have HN := Lib.hid (show decide (okK (m0, m1, ma, mn, mc)) = false from decide_eq_false fun g => g.1.1 h2)
    have z : (m0 == m1) = true := by simpa using h2
    have z' : (m0 != m1) = false := by simpa using h2
    clear h2
    go_wp2_with (go_at_call 33; (first | (with_reducible refine (site_t _ _ (by assumption)).mono ?_) | (with_reducible refine (site_f _ _ (by assumption)).mono ?_)); rintro e w' ⟨rfl, rfl⟩)
    exact bodyPost_ret (v := .bool false) (by simp [results, Try.results30, go_sem]) rfl ⟨by rw [HN.out], H.out⟩
  have z : (m0 == m1) = false := by simpa using h2
  have z' : (m0 != m1) = true := by simpa using h2
  by_cases h3 : mn ≤ 1048576
  · have HN := Lib.hid (show decide (okK (m0, m1, ma, mn, mc)) = true from decide_eq_true ⟨⟨h2, h0, h1⟩, h3⟩)
    have y : decide ((mn : Int) ≤ 1048576) = true := decide_eq_true (by omega)
    clear h2 h3
    go_wp2_with (go_at_call 33; (first | (with_reducible refine (site_t _ _ (by assumption)).mono ?_) | (with_reducible refine (site_f _ _ (by assumption)).mono ?_)); rintro e w' ⟨rfl, rfl⟩)
    exact bodyPost_ret (v := .bool true) (by simp [results, Try.results30, go_sem]) rfl ⟨by rw [HN.out], H.out⟩
  have HN := Lib.hid (show decide (okK (m0, m1, ma, mn, mc)) = false from decide_eq_false fun g => h3 g.2)
  have y : decide ((mn : Int) ≤ 1048576) = false := decide_eq_false (by omega)
  clear h2 h3
  go_wp2_with (go_at_call 33; (first | (with_reducible refine (site_t _ _ (by assumption)).mono ?_) | (with_reducible refine (site_f _ _ (by assumption)).mono ?_)); rintro e w' ⟨rfl, rfl⟩)
  exact bodyPost_ret (v := .bool false) (by simp [results, Try.results30, go_sem]) rfl ⟨by rw [HN.out], H.out⟩
theorem rpacket_t (m : Kt) (w : World) (h : okK m) : Calls Try.prog 30 #[vK m] w fun e w' => e = .returned (.bool true) ∧ Below w.heap.size w w' := by have := rpacket_any m w; rwa [decide_eq_true h] at this
theorem rpacket_f (m : Kt) (w : World) (h : ¬ okK m) : Calls Try.prog 30 #[vK m] w fun e w' => e = .returned (.bool false) ∧ Below w.heap.size w w' := by have := rpacket_any m w; rwa [decide_eq_false h] at this

set_option maxRecDepth 100000 in
set_option maxHeartbeats 8000000 in
theorem rcheck_any (qa : Option Addr) (qn qc qb qo : Nat) (Q : List Kt) (pa : Option Addr) (pn pc pb po : Nat) (A : List Qt) (w : World) (hQ : Ks w qa qn qb qo Q) (hA : Qs w pa pn pb po A) (hqn : qn ≤ 9223372036854775807) (hpn : pn ≤ 9223372036854775807) :
    Calls Try.prog 14 #[.agg #[.slice qa qn qc, .slice pa pn pc]] w fun e w' => e = .returned (.int .i64 (chkN Q A)) ∧ Below w.heap.size w w' := by
  have HM := Lib.hid (show _ ∧ _ ∧ _ ∧ _ from ⟨hQ, hA, hQ.1, hA.1⟩)
  clear hQ hA
  obtain ⟨W, hW⟩ : ∃ W, W = w.alloc (.cells #[.slice qa qn qc, .slice pa pn pc] 25) := ⟨_, rfl⟩
  have hB : Below w.heap.size w W := by rw [hW]; go_grown
  have g1 : W.heap[w.heap.size]? = some (.cells #[.slice qa qn qc, .slice pa pn pc] 25 (0, 0)) := by rw [hW]; exact blk_new _ _
  have d0 := blk_cell g1 0; have d1 := blk_cell g1 1
  simp at d0 d1
  have H := Lib.hid (show _ ∧ _ from ⟨hB, g1⟩)
  clear hB g1
  go_enter Try.func14, Try.ntmps14
  go_upto_region 1 with fail
  rw [← hW]
  clear hW
  by_cases hm : 4096 < qn
  · have z : decide (4096 < (qn : Int)) = true := decide_eq_true (by omega)
    have HN := Lib.hid (chkN_no (A := A) (Q := Q) fun g => by have := g.1; rw [HM.out.2.2.1] at this; omega)
    clear hm
    go_wp2
    exact bodyPost_ret (v := .int .i64 60) (by simp [results, Try.results14, go_sem]) rfl ⟨by rw [HN.out], H.out.1⟩
  have z : decide (4096 < (qn : Int)) = false := decide_eq_false (by omega)
  go_wp2
  clear d0 d1 z
  go_loopw [3] (fun i wr => ∃ k : Nat, k ≤ qn ∧ i = .int .i64 k ∧ okQn Q k ∧ wr.heap[w.heap.size]? = some (.cells #[.slice qa qn qc, .slice pa pn pc] 25 (0, 0)) ∧ Below w.heap.size w wr) (fun i _ => qn - (intOf i).toNat)
  case atStart => exact ⟨0, Nat.zero_le _, rfl, fun i hi => by omega, H.out.2, H.out.1⟩
  case round =>
    clear H
    obtain ⟨k, hk, rfl, hok, hbx, hb⟩ := hrel
    have d0 := blk_cell hbx 0; have d1 := blk_cell hbx 1
    simp at d0 d1
    by_cases hlt : k < qn
    case neg =>
      obtain rfl : k = qn := by omega
      have hkk : decide ((k : Int) < k) = false := by simp
      have HB := Lib.hid (show _ ∧ _ ∧ _ from ⟨hok, hbx, hb⟩)
      clear hok hbx hb
      go_wp2
      clear d0 d1 hkk
      go_loopw [4] (fun i wr => ∃ j : Nat, j ≤ pn ∧ i = .int .i64 j ∧ okAn A j ∧ wr.heap[w.heap.size]? = some (.cells #[.slice qa k qc, .slice pa pn pc] 25 (0, 0)) ∧ Below w.heap.size w wr) (fun i _ => pn - (intOf i).toNat)
      case atStart => exact ⟨0, Nat.zero_le _, rfl, fun i hi => by omega, HB.out.2.1, HB.out.2.2⟩
      case round =>
        have HQ := Lib.hid HB.out.1
        clear HB
        obtain ⟨j, hj, rfl, hok, hbx, hb⟩ := hrel
        have e0 := blk_cell hbx 0; have e1 := blk_cell hbx 1
        simp at e0 e1
        by_cases hjp : j < pn
        case neg =>
          obtain rfl : j = pn := by omega
          have hkk : decide ((j : Int) < j) = false := by simp
          have HN := Lib.hid (show _ ∧ _ from ⟨chkN_yes (A := A) (Q := Q) ⟨by rw [HM.out.2.2.1]; omega, by rw [HM.out.2.2.1]; exact HQ.out, by rw [HM.out.2.2.2]; exact hok⟩, hb⟩)
          clear hok hbx hb
          go_wp2
          exact bodyPost_ret (v := .int .i64 0) (by simp [results, Try.results14, go_sem]) rfl ⟨by rw [HN.out.1], HN.out.2⟩
        obtain ⟨rfl, hbw⟩ := HM.out.2.1.2.1 (by omega)
        obtain ⟨c0, c1⟩ := (HM.out.2.1.grown hb).2.2 j hjp
        have hprev : 0 < j → wr.cell? ⟨pb, po + (j - 1) * 2, none⟩ = some (.int .i64 (nthQ A (j - 1)).1) ∧ wr.cell? ⟨pb, po + (j - 1) * 2 + 1, none⟩ = some (.int .i64 (nthQ A (j - 1)).2) := fun h0 => (HM.out.2.1.grown hb).2.2 (j - 1) (by omega)
        have hsu := fun (h : okP A j) => okAn_succ hok h
        have hno := fun (h : ¬ okP A j) => chkN_no (A := A) (Q := Q) fun g => h (g.2.2 j (by rw [HM.out.2.2.2]; exact hjp))
        unfold okP at hsu hno
        generalize nthQ A j = x at *
        obtain ⟨x0, x1⟩ := x
        generalize nthQ A (j - 1) = u at *
        obtain ⟨u0, u1⟩ := u
        dsimp only at c0 c1 hprev hsu hno
        have HX := Lib.hid (show _ ∧ _ ∧ _ from ⟨hsu, hno, hprev⟩)
        clear hsu hno hok hprev
        have hltI : (j : Int) < pn := by omega
        go_upto_region 12 with fail
        clear c0 c1 e0 e1
        have HB := Lib.hid (show (wr.alloc (.cells #[.int .i64 x0, .int .i64 x1] 55)).heap[wr.heap.size]? = some (.cells #[.int .i64 x0, .int .i64 x1] 55 (0, 0)) ∧ (wr.alloc (.cells #[.int .i64 x0, .int .i64 x1] 55)).heap[w.heap.size]? = some (.cells #[.slice qa k qc, .slice (some ⟨pb, po, none⟩) pn pc] 25 (0, 0)) ∧ Below w.heap.size w (wr.alloc (.cells #[.int .i64 x0, .int .i64 x1] 55)) from ⟨blk_new _ _, blk_alloc hbx _, hb.alloc hb.size _⟩)
        have hpv := fun h0 => And.intro (cell_alloc_keep (HX.out.2.2 h0).1 (.cells #[.int .i64 x0, .int .i64 x1] 55)) (cell_alloc_keep (HX.out.2.2 h0).2 (.cells #[.int .i64 x0, .int .i64 x1] 55))
        have HV := Lib.hid hpv
        clear hbx hb hpv
        generalize wr.alloc (.cells #[.int .i64 x0, .int .i64 x1] 55) = W6 at *
        generalize wr.heap.size = q6 at *
        have c0 := blk_cell HB.out.1 0; have c1 := blk_cell HB.out.1 1
        have e0 := blk_cell HB.out.2.1 0; have e1 := blk_cell HB.out.2.1 1
        simp at c0 c1 e0 e1
        by_cases h0 : site x0
        case neg =>
          have HN := Lib.hid (HX.out.2.1 fun g => h0 g.1.2.1)
          go_wp2_with (go_at_call 33; (first | (with_reducible refine (site_t _ _ (by assumption)).mono ?_) | (with_reducible refine (site_f _ _ (by assumption)).mono ?_)); rintro e w' ⟨rfl, rfl⟩)
          exact bodyPost_ret (v := .int .i64 60) (by simp [results, Try.results14, go_sem]) rfl ⟨by rw [HN.out], HB.out.2.2⟩
        by_cases h1 : site x1
        case neg =>
          have HN := Lib.hid (HX.out.2.1 fun g => h1 g.1.2.2)
          go_wp2_with (go_at_call 33; (first | (with_reducible refine (site_t _ _ (by assumption)).mono ?_) | (with_reducible refine (site_f _ _ (by assumption)).mono ?_)); rintro e w' ⟨rfl, rfl⟩)
          exact bodyPost_ret (v := .int .i64 60) (by simp [results, Try.results14, go_sem]) rfl ⟨by rw [HN.out], HB.out.2.2⟩
        by_cases ho : x1 ≤ x0
        · have HN := Lib.hid (HX.out.2.1 fun g => by have := g.1.1; have := g.2.1; omega)
          have z1 : decide (x1 ≤ x0) = true := decide_eq_true ho
          go_wp2_with (go_at_call 33; (first | (with_reducible refine (site_t _ _ (by assumption)).mono ?_) | (with_reducible refine (site_f _ _ (by assumption)).mono ?_)); rintro e w' ⟨rfl, rfl⟩)
          exact bodyPost_ret (v := .int .i64 60) (by simp [results, Try.results14, go_sem]) rfl ⟨by rw [HN.out], HB.out.2.2⟩
        have z1 : decide (x1 ≤ x0) = false := decide_eq_false ho
        have hp : prt x0 x1 := ⟨by omega, h0, h1⟩
        have ho' : ¬ x1 < x0 := by omega
        rcases Nat.eq_zero_or_pos j with rfl | hj0
        · have HN := Lib.hid (HX.out.1 ⟨hp, ho', fun h => by omega⟩)
          clear hp
          go_upto_region 14 with (go_at_call 33; (first | (with_reducible refine (site_t _ _ (by assumption)).mono ?_) | (with_reducible refine (site_f _ _ (by assumption)).mono ?_)); rintro e w' ⟨rfl, rfl⟩)
          replace c0 := cell_regrown c0; replace c1 := cell_regrown c1; replace e0 := cell_regrown e0; replace e1 := cell_regrown e1
          refine wp_region_quiet_below (by kernel_rfl) (by kernel_rfl) ?_
          repeat (go_big_quiet_step ((fail)))
          refine wpQuiet_nil ?_
          intro WQ hq'
          have hq := of_regrown hq'
          clear hq'
          go_wp2
          go_roundw
          case rel => exact ⟨1, by omega, by go_num, HN.out, blk_below HB.out.2.1 hq (Array.getElem?_eq_some_iff.1 HB.out.2.1).1, below_after HB.out.2.2 hq HB.out.2.2.size⟩
          case measure => simp [intOf] <;> omega
        obtain ⟨p0, p1⟩ := HV.out hj0
        obtain ⟨j', rfl⟩ : ∃ j', j = j' + 1 := ⟨j - 1, by omega⟩
        rw [show j' + 1 - 1 = j' by omega] at p0 p1
        have hz : decide ((0 : Int) < (j' : Int) + 1) = true := decide_eq_true (by omega)
        have hz1 : ((j' : Int) + 1 - 1) = j' := by omega
        have htm : j' < pn := by omega
        by_cases l1 : x0 < u0
        · have HN := Lib.hid (HX.out.2.1 fun g => by have h5 := g.2.2 hj0; unfold ltQ at h5; dsimp only at h5; omega)
          have y1 : decide (x0 < u0) = true := decide_eq_true l1
          clear hp
          go_upto_region 14 with (go_at_call 33; (first | (with_reducible refine (site_t _ _ (by assumption)).mono ?_) | (with_reducible refine (site_f _ _ (by assumption)).mono ?_)); rintro e w' ⟨rfl, rfl⟩)
          replace c0 := cell_regrown c0; replace c1 := cell_regrown c1; replace e0 := cell_regrown e0; replace e1 := cell_regrown e1
          replace p0 := cell_regrown p0; replace p1 := cell_regrown p1
          refine wp_region_quiet_below (by kernel_rfl) (by kernel_rfl) ?_
          repeat (go_big_quiet_step ((fail)))
          refine wpQuiet_nil ?_
          intro WQ hq'
          have hq := of_regrown hq'
          clear hq'
          go_wp2
          exact bodyPost_ret (v := .int .i64 60) (by simp [results, Try.results14, go_sem]) rfl ⟨by rw [HN.out], (below_after HB.out.2.2 hq HB.out.2.2.size)⟩
        have y1 : decide (x0 < u0) = false := decide_eq_false l1
        by_cases l2 : x0 = u0
        case neg =>
          have HN := Lib.hid (HX.out.1 ⟨hp, ho', fun _ => .inl (by dsimp only; omega)⟩)
          have y2 : (x0 == u0) = false := by simpa using l2
          clear hp
          go_upto_region 14 with (go_at_call 33; (first | (with_reducible refine (site_t _ _ (by assumption)).mono ?_) | (with_reducible refine (site_f _ _ (by assumption)).mono ?_)); rintro e w' ⟨rfl, rfl⟩)
          replace c0 := cell_regrown c0; replace c1 := cell_regrown c1; replace e0 := cell_regrown e0; replace e1 := cell_regrown e1
          replace p0 := cell_regrown p0; replace p1 := cell_regrown p1
          refine wp_region_quiet_below (by kernel_rfl) (by kernel_rfl) ?_
          repeat (go_big_quiet_step ((fail)))
          refine wpQuiet_nil ?_
          intro WQ hq'
          have hq := of_regrown hq'
          clear hq'
          go_wp2
          go_roundw
          case rel => exact ⟨j' + 1 + 1, by omega, by go_num, HN.out, blk_below HB.out.2.1 hq (Array.getElem?_eq_some_iff.1 HB.out.2.1).1, below_after HB.out.2.2 hq HB.out.2.2.size⟩
          case measure => simp [intOf] <;> omega
        have y2 : (x0 == u0) = true := by simpa using l2
        by_cases l3 : x1 ≤ u1
        · have HN := Lib.hid (HX.out.2.1 fun g => by have h5 := g.2.2 hj0; unfold ltQ at h5; dsimp only at h5; omega)
          have y3 : decide (x1 ≤ u1) = true := decide_eq_true l3
          clear hp l2
          go_upto_region 14 with (go_at_call 33; (first | (with_reducible refine (site_t _ _ (by assumption)).mono ?_) | (with_reducible refine (site_f _ _ (by assumption)).mono ?_)); rintro e w' ⟨rfl, rfl⟩)
          replace c0 := cell_regrown c0; replace c1 := cell_regrown c1; replace e0 := cell_regrown e0; replace e1 := cell_regrown e1
          replace p0 := cell_regrown p0; replace p1 := cell_regrown p1
          refine wp_region_quiet_below (by kernel_rfl) (by kernel_rfl) ?_
          repeat (go_big_quiet_step ((fail)))
          refine wpQuiet_nil ?_
          intro WQ hq'
          have hq := of_regrown hq'
          clear hq'
          go_wp2
          exact bodyPost_ret (v := .int .i64 60) (by simp [results, Try.results14, go_sem]) rfl ⟨by rw [HN.out], (below_after HB.out.2.2 hq HB.out.2.2.size)⟩
        have HN := Lib.hid (HX.out.1 ⟨hp, ho', fun _ => .inr ⟨l2.symm, by dsimp only; omega⟩⟩)
        have y3 : decide (x1 ≤ u1) = false := decide_eq_false l3
        clear hp l2
        go_upto_region 14 with (go_at_call 33; (first | (with_reducible refine (site_t _ _ (by assumption)).mono ?_) | (with_reducible refine (site_f _ _ (by assumption)).mono ?_)); rintro e w' ⟨rfl, rfl⟩)
        replace c0 := cell_regrown c0; replace c1 := cell_regrown c1; replace e0 := cell_regrown e0; replace e1 := cell_regrown e1
        replace p0 := cell_regrown p0; replace p1 := cell_regrown p1
        refine wp_region_quiet_below (by kernel_rfl) (by kernel_rfl) ?_
        repeat (go_big_quiet_step ((fail)))
        refine wpQuiet_nil ?_
        intro WQ hq'
        have hq := of_regrown hq'
        clear hq'
        go_wp2
        go_roundw
        case rel => exact ⟨j' + 1 + 1, by omega, by go_num, HN.out, blk_below HB.out.2.1 hq (Array.getElem?_eq_some_iff.1 HB.out.2.1).1, below_after HB.out.2.2 hq HB.out.2.2.size⟩
        case measure => simp [intOf] <;> omega
    obtain ⟨rfl, hbw⟩ := HM.out.1.2.1 (by omega)
    obtain ⟨c0, c1, c2⟩ := (HM.out.1.grown hb).2.2 k hlt
    have hsu := fun (h : okK (nthK Q k)) => okQn_succ hok h
    have hno := fun (h : ¬ okK (nthK Q k)) => chkN_no (A := A) (Q := Q) fun g => h (g.2.1 k (by rw [HM.out.2.2.1]; exact hlt))
    generalize nthK Q k = x at *
    obtain ⟨x0, x1, xa, xn, xc⟩ := x
    dsimp only at c0 c1 c2
    have HX := Lib.hid (show _ ∧ _ ∧ _ ∧ _ from ⟨hsu, hno, hbx, hb⟩)
    clear hsu hno hok hbx hb
    have hltI : (k : Int) < qn := by omega
    go_wp2_with fail
    clear c0 c1 c2 d0 d1
    by_cases hv : okK (x0, x1, xa, xn, xc)
    case neg =>
      refine (rpacket_f (x0, x1, xa, xn, xc) wr hv).mono ?_
      rintro e W7 ⟨rfl, hb⟩
      have HN := Lib.hid (show _ ∧ _ from ⟨HX.out.2.1 hv, below_after HX.out.2.2.2 hb HX.out.2.2.2.size⟩)
      clear hb hv
      go_wp2
      exact bodyPost_ret (v := .int .i64 60) (by simp [results, Try.results14, go_sem]) rfl ⟨by rw [HN.out.1], HN.out.2⟩
    refine (rpacket_t (x0, x1, xa, xn, xc) wr hv).mono ?_
    rintro e W7 ⟨rfl, hb⟩
    have HN := Lib.hid (show _ ∧ _ ∧ _ from ⟨HX.out.1 hv, blk_below HX.out.2.2.1 hb (Array.getElem?_eq_some_iff.1 HX.out.2.2.1).1, below_after HX.out.2.2.2 hb HX.out.2.2.2.size⟩)
    clear hb hv
    go_wp2
    go_roundw
    case rel => exact ⟨k + 1, by omega, by go_num, HN.out⟩
    case measure => simp [intOf] <;> omega
end Go.Proofs.Ythgbkdaimnejeaa
