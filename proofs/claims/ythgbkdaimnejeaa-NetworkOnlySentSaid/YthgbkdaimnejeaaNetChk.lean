/- Check of network (layer 6). -/
import Derived.Test.YthgbkdaimnejeaaNetLeaf
namespace Go.Proofs.Ythgbkdaimnejeaa
open Go.ChangeShapes Go.WideShapes Go.ChangeAt Go.RowKit Go.Sort Go.Shelf

def okP (A : List Qt) (i : Nat) : Prop := prt (nthQ A i).1 (nthQ A i).2 ∧ ¬ (nthQ A i).2 < (nthQ A i).1 ∧ (0 < i → ltQ (nthQ A (i - 1)) (nthQ A i))
def okQn (Q : List Kt) (k : Nat) : Prop := ∀ i, i < k → okK (nthK Q i)
def okAn (A : List Qt) (k : Nat) : Prop := ∀ i, i < k → okP A i
theorem okQn_succ {Q : List Kt} {k : Nat} (h : okQn Q k) (h2 : okK (nthK Q k)) : okQn Q (k + 1) := fun i hi => by
  by_cases e : i = k
  · subst e; exact h2
  · exact h i (by omega)
theorem okAn_succ {A : List Qt} {k : Nat} (h : okAn A k) (h2 : okP A k) : okAn A (k + 1) := fun i hi => by
  by_cases e : i = k
  · subst e; exact h2
  · exact h i (by omega)
def NetOk (Q : List Kt) (A : List Qt) : Prop := Q.length ≤ 4096 ∧ okQn Q Q.length ∧ okAn A A.length
noncomputable def chkN (Q : List Kt) (A : List Qt) : Int := by classical exact if NetOk Q A then 0 else 60
theorem chkN_yes {Q : List Kt} {A : List Qt} (h : NetOk Q A) : chkN Q A = 0 := if_pos h
theorem chkN_no {Q : List Kt} {A : List Qt} (h : ¬ NetOk Q A) : chkN Q A = 60 := if_neg h
theorem parties_tb (a b : Int) (w : World) (h : prt a b) : Calls Try.prog 31 #[.int .i64 a, .int .i64 b] w fun e w' => e = .returned (.bool true) ∧ Below w.heap.size w w' := (parties_t a b w h).mono fun _ _ ⟨h1, h2⟩ => ⟨h1, h2 ▸ Below.refl _ _⟩
theorem parties_fb (a b : Int) (w : World) (h : ¬ prt a b) : Calls Try.prog 31 #[.int .i64 a, .int .i64 b] w fun e w' => e = .returned (.bool false) ∧ Below w.heap.size w w' := (parties_f a b w h).mono fun _ _ ⟨h1, h2⟩ => ⟨h1, h2 ▸ Below.refl _ _⟩
theorem before_t (x y : Qt) (w : World) (h : ltQ x y) : Calls Try.prog 32 #[vQ x, vQ y] w fun e w' => e = .returned (.bool true) ∧ Below w.heap.size w w' := by have := before_any x y w; rwa [decide_eq_true h] at this
theorem before_f (x y : Qt) (w : World) (h : ¬ ltQ x y) : Calls Try.prog 32 #[vQ x, vQ y] w fun e w' => e = .returned (.bool false) ∧ Below w.heap.size w w' := by have := before_any x y w; rwa [decide_eq_false h] at this
theorem valid_t (m : Kt) (w : World) (h : okK m) : Calls Try.prog 28 #[vK m] w fun e w' => e = .returned (.bool true) ∧ Below w.heap.size w w' := by have := valid_any m w; rwa [decide_eq_true h] at this
theorem valid_f (m : Kt) (w : World) (h : ¬ okK m) : Calls Try.prog 28 #[vK m] w fun e w' => e = .returned (.bool false) ∧ Below w.heap.size w w' := by have := valid_any m w; rwa [decide_eq_false h] at this

set_option maxRecDepth 100000 in
set_option maxHeartbeats 8000000 in
theorem check_any (qa : Option Addr) (qn qc qb qo : Nat) (Q : List Kt) (pa : Option Addr) (pn pc pb po : Nat) (A : List Qt) (w : World) (hQ : Ks w qa qn qb qo Q) (hA : Qs w pa pn pb po A) (hqn : qn ≤ 9223372036854775807) (hpn : pn ≤ 9223372036854775807) :
    Calls Try.prog 13 #[.agg #[.slice qa qn qc, .slice pa pn pc]] w fun e w' => e = .returned (.int .i64 (chkN Q A)) ∧ Below w.heap.size w w' := by
  have HM := Lib.hid (show _ ∧ _ ∧ _ ∧ _ from ⟨hQ, hA, hQ.1, hA.1⟩)
  clear hQ hA
  obtain ⟨W, hW⟩ : ∃ W, W = w.alloc (.cells #[.slice qa qn qc, .slice pa pn pc] 25) := ⟨_, rfl⟩
  have hB : Below w.heap.size w W := by rw [hW]; go_grown
  have g1 : W.heap[w.heap.size]? = some (.cells #[.slice qa qn qc, .slice pa pn pc] 25 (0, 0)) := by rw [hW]; exact blk_new _ _
  have d0 := blk_cell g1 0; have d1 := blk_cell g1 1
  simp at d0 d1
  have H := Lib.hid (show _ ∧ _ from ⟨hB, g1⟩)
  clear hB g1
  go_enter Try.func13, Try.ntmps13
  go_upto_region 1 with fail
  rw [← hW]
  clear hW
  by_cases hm : 4096 < qn
  · have z : decide (4096 < (qn : Int)) = true := decide_eq_true (by omega)
    have HN := Lib.hid (chkN_no (A := A) (Q := Q) fun g => by have := g.1; rw [HM.out.2.2.1] at this; omega)
    clear hm
    go_wp2
    exact bodyPost_ret (v := .int .i64 60) (by simp [results, Try.results13, go_sem]) rfl ⟨by rw [HN.out], H.out.1⟩
  have z : decide (4096 < (qn : Int)) = false := decide_eq_false (by omega)
  go_wp2
  clear d0 d1 z
  go_loopw [14] (fun i wr => ∃ k : Nat, k ≤ qn ∧ i = .int .i64 k ∧ okQn Q k ∧ wr.heap[w.heap.size]? = some (.cells #[.slice qa qn qc, .slice pa pn pc] 25 (0, 0)) ∧ Below w.heap.size w wr) (fun i _ => qn - (intOf i).toNat)
  case atStart => exact ⟨0, Nat.zero_le _, rfl, fun i hi => by omega, H.out.2, H.out.1⟩
  case round =>
    clear H
    obtain ⟨k, hk, rfl, hok, hbx, hb⟩ := hrel
    by_cases hlt : k < qn
    case neg =>
      obtain rfl : k = qn := by omega
      have hkk : decide ((k : Int) < k) = false := by simp
      have d0 := blk_cell hbx 0; have d1 := blk_cell hbx 1
      simp at d0 d1
      have HB := Lib.hid (show _ ∧ _ ∧ _ from ⟨hok, hbx, hb⟩)
      clear hok hbx hb
      go_wp2
      clear d0 d1 hkk
      go_loopw [25] (fun i wr => ∃ j : Nat, j ≤ pn ∧ i = .int .i64 j ∧ okAn A j ∧ wr.heap[w.heap.size]? = some (.cells #[.slice qa k qc, .slice pa pn pc] 25 (0, 0)) ∧ Below w.heap.size w wr) (fun i _ => pn - (intOf i).toNat)
      case atStart => exact ⟨0, Nat.zero_le _, rfl, fun i hi => by omega, HB.out.2.1, HB.out.2.2⟩
      case round =>
        have HQ := Lib.hid HB.out.1
        clear HB
        obtain ⟨j, hj, rfl, hok, hbx, hb⟩ := hrel
        by_cases hjp : j < pn
        case neg =>
          obtain rfl : j = pn := by omega
          have hkk : decide ((j : Int) < j) = false := by simp
          have HN := Lib.hid (show _ ∧ _ from ⟨chkN_yes (A := A) (Q := Q) ⟨by rw [HM.out.2.2.1]; omega, by rw [HM.out.2.2.1]; exact HQ.out, by rw [HM.out.2.2.2]; exact hok⟩, hb⟩)
          clear hok hbx hb
          go_wp2
          exact bodyPost_ret (v := .int .i64 0) (by simp [results, Try.results13, go_sem]) rfl ⟨by rw [HN.out.1], HN.out.2⟩
        obtain ⟨rfl, hbw⟩ := HM.out.2.1.2.1 (by omega)
        obtain ⟨c0, c1⟩ := (HM.out.2.1.grown hb).2.2 j hjp
        have hprev : 0 < j → wr.cell? ⟨pb, po + (j - 1) * 2, none⟩ = some (.int .i64 (nthQ A (j - 1)).1) ∧ wr.cell? ⟨pb, po + (j - 1) * 2 + 1, none⟩ = some (.int .i64 (nthQ A (j - 1)).2) := fun h0 => (HM.out.2.1.grown hb).2.2 (j - 1) (by omega)
        have hsu := fun (h : okP A j) => okAn_succ hok h
        have hno := fun (h : ¬ okP A j) => chkN_no (A := A) (Q := Q) fun g => h (g.2.2 j (by rw [HM.out.2.2.2]; exact hjp))
        unfold okP at hsu hno
        generalize nthQ A j = x at *
        obtain ⟨x0, x1⟩ := x
        generalize nthQ A (j - 1) = u at *
        obtain ⟨u0, u1⟩ := u
        dsimp only at c0 c1 hprev hsu hno
        have HX := Lib.hid (show _ ∧ _ ∧ _ from ⟨hsu, hno, hprev⟩)
        clear hsu hno hok hprev
        have hltI : (j : Int) < pn := by omega
        go_upto_region 12 with fail
        clear c0 c1
        have HB := Lib.hid (show (wr.alloc (.cells #[.int .i64 x0, .int .i64 x1] 55)).heap[wr.heap.size]? = some (.cells #[.int .i64 x0, .int .i64 x1] 55 (0, 0)) ∧ (wr.alloc (.cells #[.int .i64 x0, .int .i64 x1] 55)).heap[w.heap.size]? = some (.cells #[.slice qa k qc, .slice (some ⟨pb, po, none⟩) pn pc] 25 (0, 0)) ∧ Below w.heap.size w (wr.alloc (.cells #[.int .i64 x0, .int .i64 x1] 55)) from ⟨blk_new _ _, blk_alloc hbx _, hb.alloc hb.size _⟩)
        have hpv := fun h0 => And.intro (cell_alloc_keep (HX.out.2.2 h0).1 (.cells #[.int .i64 x0, .int .i64 x1] 55)) (cell_alloc_keep (HX.out.2.2 h0).2 (.cells #[.int .i64 x0, .int .i64 x1] 55))
        have HV := Lib.hid hpv
        clear hbx hb hpv
        generalize wr.alloc (.cells #[.int .i64 x0, .int .i64 x1] 55) = W6 at *
        generalize wr.heap.size = q6 at *
        have c0 := blk_cell HB.out.1 0; have c1 := blk_cell HB.out.1 1
        have e0 := blk_cell HB.out.2.1 0; have e1 := blk_cell HB.out.2.1 1
        simp at c0 c1 e0 e1
        replace c0 := cell_regrown c0; replace c1 := cell_regrown c1; replace e0 := cell_regrown e0; replace e1 := cell_regrown e1
        by_cases hp : prt x0 x1
        case neg =>
          have HN := Lib.hid (HX.out.2.1 fun g => hp g.1)
          refine wp_region_quiet_below (by kernel_rfl) (by kernel_rfl) ?_
          repeat (go_big_quiet_step (((go_at_call 31; with_reducible exact Calls.regrown_of (parties_fb x0 x1 _ hp)))))
          refine wpQuiet_nil ?_
          intro WQ hq'
          have hq := of_regrown hq'
          clear hq'
          go_wp2
          exact bodyPost_ret (v := .int .i64 60) (by simp [results, Try.results13, go_sem]) rfl ⟨by rw [HN.out], (below_after HB.out.2.2 hq HB.out.2.2.size)⟩
        by_cases ho : x1 < x0
        · have HN := Lib.hid (HX.out.2.1 fun g => g.2.1 ho)
          have z1 : decide (x1 < x0) = true := decide_eq_true ho
          refine wp_region_quiet_below (by kernel_rfl) (by kernel_rfl) ?_
          repeat (go_big_quiet_step (((go_at_call 31; with_reducible exact Calls.regrown_of (parties_tb x0 x1 _ hp)))))
          refine wpQuiet_nil ?_
          intro WQ hq'
          have hq := of_regrown hq'
          clear hq'
          go_wp2
          exact bodyPost_ret (v := .int .i64 60) (by simp [results, Try.results13, go_sem]) rfl ⟨by rw [HN.out], (below_after HB.out.2.2 hq HB.out.2.2.size)⟩
        have z1 : decide (x1 < x0) = false := decide_eq_false ho
        rcases Nat.eq_zero_or_pos j with rfl | h0
        · have HN := Lib.hid (HX.out.1 ⟨hp, ho, fun h => by omega⟩)
          refine wp_region_quiet_below (by kernel_rfl) (by kernel_rfl) ?_
          repeat (go_big_quiet_step (((go_at_call 31; with_reducible exact Calls.regrown_of (parties_tb x0 x1 _ hp)))))
          refine wpQuiet_nil ?_
          intro WQ hq'
          have hq := of_regrown hq'
          clear hq'
          go_wp2
          go_roundw
          case rel => exact ⟨1, by omega, by go_num, HN.out, blk_below HB.out.2.1 hq (Array.getElem?_eq_some_iff.1 HB.out.2.1).1, below_after HB.out.2.2 hq HB.out.2.2.size⟩
          case measure => simp [intOf] <;> omega
        obtain ⟨p0, p1⟩ := HV.out h0
        obtain ⟨j', rfl⟩ : ∃ j', j = j' + 1 := ⟨j - 1, by omega⟩
        rw [show j' + 1 - 1 = j' by omega] at p0 p1
        replace p0 := cell_regrown p0; replace p1 := cell_regrown p1
        have hz : decide ((0 : Int) < (j' : Int) + 1) = true := decide_eq_true (by omega)
        have hz1 : ((j' : Int) + 1 - 1) = j' := by omega
        have htm : j' < pn := by omega
        by_cases hl : ltQ (u0, u1) (x0, x1)
        · have HN := Lib.hid (HX.out.1 ⟨hp, ho, fun _ => hl⟩)
          refine wp_region_quiet_below (by kernel_rfl) (by kernel_rfl) ?_
          repeat (go_big_quiet_step (((first | (go_at_call 31; with_reducible exact Calls.regrown_of (parties_tb x0 x1 _ hp)) | (go_at_call 32; with_reducible exact Calls.regrown_of (before_t (u0, u1) (x0, x1) _ hl))))))
          refine wpQuiet_nil ?_
          intro WQ hq'
          have hq := of_regrown hq'
          clear hq'
          go_wp2
          go_roundw
          case rel => exact ⟨j' + 1 + 1, by omega, by go_num, HN.out, blk_below HB.out.2.1 hq (Array.getElem?_eq_some_iff.1 HB.out.2.1).1, below_after HB.out.2.2 hq HB.out.2.2.size⟩
          case measure => simp [intOf] <;> omega
        have HN := Lib.hid (HX.out.2.1 fun g => hl (g.2.2 h0))
        refine wp_region_quiet_below (by kernel_rfl) (by kernel_rfl) ?_
        repeat (go_big_quiet_step (((first | (go_at_call 31; with_reducible exact Calls.regrown_of (parties_tb x0 x1 _ hp)) | (go_at_call 32; with_reducible exact Calls.regrown_of (before_f (u0, u1) (x0, x1) _ hl))))))
        refine wpQuiet_nil ?_
        intro WQ hq'
        have hq := of_regrown hq'
        clear hq'
        go_wp2
        exact bodyPost_ret (v := .int .i64 60) (by simp [results, Try.results13, go_sem]) rfl ⟨by rw [HN.out], (below_after HB.out.2.2 hq HB.out.2.2.size)⟩
    obtain ⟨rfl, hbw⟩ := HM.out.1.2.1 (by omega)
    obtain ⟨c0, c1, c2⟩ := (HM.out.1.grown hb).2.2 k hlt
    have hsu := fun (h : okK (nthK Q k)) => okQn_succ hok h
    have hno := fun (h : ¬ okK (nthK Q k)) => chkN_no (A := A) (Q := Q) fun g => h (g.2.1 k (by rw [HM.out.2.2.1]; exact hlt))
    generalize nthK Q k = x at *
    obtain ⟨x0, x1, xa, xn, xc⟩ := x
    dsimp only at c0 c1 c2
    have HX := Lib.hid (show _ ∧ _ from ⟨hsu, hno⟩)
    clear hsu hno hok
    have hltI : (k : Int) < qn := by omega
    go_upto_region 6 with fail
    clear c0 c1 c2
    have HB := Lib.hid (show (wr.alloc (.cells #[.int .i64 x0, .int .i64 x1, .slice xa xn xc] 28)).heap[wr.heap.size]? = some (.cells #[.int .i64 x0, .int .i64 x1, .slice xa xn xc] 28 (0, 0)) ∧ (wr.alloc (.cells #[.int .i64 x0, .int .i64 x1, .slice xa xn xc] 28)).heap[w.heap.size]? = some (.cells #[.slice (some ⟨qb, qo, none⟩) qn qc, .slice pa pn pc] 25 (0, 0)) ∧ Below w.heap.size w (wr.alloc (.cells #[.int .i64 x0, .int .i64 x1, .slice xa xn xc] 28)) from ⟨blk_new _ _, blk_alloc hbx _, hb.alloc hb.size _⟩)
    clear hbx hb
    generalize wr.alloc (.cells #[.int .i64 x0, .int .i64 x1, .slice xa xn xc] 28) = W6 at *
    generalize wr.heap.size = q6 at *
    have c0 := blk_cell HB.out.1 0; have c1 := blk_cell HB.out.1 1; have c2 := blk_cell HB.out.1 2
    simp at c0 c1 c2
    go_wp2_with fail
    clear c0 c1 c2
    by_cases hv : okK (x0, x1, xa, xn, xc)
    case neg =>
      refine (valid_f (x0, x1, xa, xn, xc) W6 hv).mono ?_
      rintro e W7 ⟨rfl, hb⟩
      have HN := Lib.hid (show _ ∧ _ from ⟨HX.out.2 hv, below_after HB.out.2.2 hb HB.out.2.2.size⟩)
      clear hb hv
      go_wp2
      exact bodyPost_ret (v := .int .i64 60) (by simp [results, Try.results13, go_sem]) rfl ⟨by rw [HN.out.1], HN.out.2⟩
    refine (valid_t (x0, x1, xa, xn, xc) W6 hv).mono ?_
    rintro e W7 ⟨rfl, hb⟩
    have HN := Lib.hid (show _ ∧ _ ∧ _ from ⟨HX.out.1 hv, blk_below HB.out.2.1 hb (Array.getElem?_eq_some_iff.1 HB.out.2.1).1, below_after HB.out.2.2 hb HB.out.2.2.size⟩)
    clear hb hv
    go_wp2
    go_roundw
    case rel => exact ⟨k + 1, by omega, by go_num, HN.out⟩
    case measure => simp [intOf] <;> omega
end Go.Proofs.Ythgbkdaimnejeaa
