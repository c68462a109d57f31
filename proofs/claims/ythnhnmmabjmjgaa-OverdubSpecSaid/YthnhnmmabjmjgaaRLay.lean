/- The reference's Lay (layer 44). -/
import Derived.Test.YthnhnmmabjmjgaaRHeard
import Derived.Test.YthnhnmmabjmjgaaOvdLay
import Derived.Test.YthnhnmmabjmjgaaOvdOrd
import Derived.Deep.CutBlock
import Derived.Deep.CutRange
namespace Go.Proofs.Ythnhnmmabjmjgaa
open Go.ChangeShapes Go.WideShapes Go.ChangeAt Go.RowKit Go.Shelf

set_option maxRecDepth 100000 in
set_option maxHeartbeats 8000000 in
theorem rlay_any (a : Option Addr) (sn cap b off : Nat) (l : List Ht) (st n i o : Int) (w : World) (hM : Hs w a sn b off l) (hn : sn ≤ 9223372036854775807) :
    Calls Try.prog 12 #[.slice a sn cap, .int .i64 st, .int .i64 n, .int .i64 i, .int .i64 o] w fun e w' => ∃ v, e = .returned (.tuple #[v, .int .i64 (layS l st n i o).1]) ∧ DsO w' w.heap.size v (layS l st n i o).2 ∧ Below w.heap.size w w' := by
  have HM := Lib.hid hM
  have hlen := Lib.hid hM.1
  clear hM
  go_enter Try.func12, Try.ntmps12
  go_wp2_with fail
  refine (rinorder_any a sn cap b off l w HM.out hn).mono ?_
  rintro e W1 ⟨rfl, hb⟩
  by_cases q : OrdS l
  case neg =>
    have E0 := Lib.hid (layS_no (l := l) (st := st) (k := n) (i := i) (o := o) fun h => q h.1)
    rw [decide_eq_false q]
    clear q
    go_wp2
    exact bodyPost_ret (v := .tuple #[.slice none 0 0, .int .i64 1]) (by simp [results, Try.results12, go_sem]) rfl ⟨_, by rw [E0.out], by rw [E0.out]; exact DsO.nil _ _, hb⟩
  rw [decide_eq_true q]
  by_cases q0 : st < 0
  · have E0 := Lib.hid (layS_no (l := l) (st := st) (k := n) (i := i) (o := o) fun h => by have := h.2.1; omega)
    have z0 : decide (st < 0) = true := decide_eq_true q0
    clear q0
    go_wp2
    exact bodyPost_ret (v := .tuple #[.slice none 0 0, .int .i64 1]) (by simp [results, Try.results12, go_sem]) rfl ⟨_, by rw [E0.out], by rw [E0.out]; exact DsO.nil _ _, hb⟩
  by_cases q1 : st > 1099511627776
  · have E0 := Lib.hid (layS_no (l := l) (st := st) (k := n) (i := i) (o := o) fun h => by have := h.2.1; omega)
    have z0 : decide (st < 0) = false := decide_eq_false q0
    have z1 : decide (st > 1099511627776) = true := decide_eq_true q1
    clear q0 q1
    go_wp2
    exact bodyPost_ret (v := .tuple #[.slice none 0 0, .int .i64 1]) (by simp [results, Try.results12, go_sem]) rfl ⟨_, by rw [E0.out], by rw [E0.out]; exact DsO.nil _ _, hb⟩
  by_cases q2 : n < 0
  · have E0 := Lib.hid (layS_no (l := l) (st := st) (k := n) (i := i) (o := o) fun h => by have := h.2.2.1; omega)
    have z0 : decide (st < 0) = false := decide_eq_false q0
    have z1 : decide (st > 1099511627776) = false := decide_eq_false q1
    have z2 : decide (n < 0) = true := decide_eq_true q2
    clear q0 q1 q2
    go_wp2
    exact bodyPost_ret (v := .tuple #[.slice none 0 0, .int .i64 1]) (by simp [results, Try.results12, go_sem]) rfl ⟨_, by rw [E0.out], by rw [E0.out]; exact DsO.nil _ _, hb⟩
  by_cases q3 : n > 16777216
  · have E0 := Lib.hid (layS_no (l := l) (st := st) (k := n) (i := i) (o := o) fun h => by have := h.2.2.1; omega)
    have z0 : decide (st < 0) = false := decide_eq_false q0
    have z1 : decide (st > 1099511627776) = false := decide_eq_false q1
    have z2 : decide (n < 0) = false := decide_eq_false q2
    have z3 : decide (n > 16777216) = true := decide_eq_true q3
    clear q0 q1 q2 q3
    go_wp2
    exact bodyPost_ret (v := .tuple #[.slice none 0 0, .int .i64 1]) (by simp [results, Try.results12, go_sem]) rfl ⟨_, by rw [E0.out], by rw [E0.out]; exact DsO.nil _ _, hb⟩
  by_cases q4 : i < 0
  · have E0 := Lib.hid (layS_no (l := l) (st := st) (k := n) (i := i) (o := o) fun h => by have := h.2.2.2.1; omega)
    have z0 : decide (st < 0) = false := decide_eq_false q0
    have z1 : decide (st > 1099511627776) = false := decide_eq_false q1
    have z2 : decide (n < 0) = false := decide_eq_false q2
    have z3 : decide (n > 16777216) = false := decide_eq_false q3
    have z4 : decide (i < 0) = true := decide_eq_true q4
    clear q0 q1 q2 q3 q4
    go_wp2
    exact bodyPost_ret (v := .tuple #[.slice none 0 0, .int .i64 1]) (by simp [results, Try.results12, go_sem]) rfl ⟨_, by rw [E0.out], by rw [E0.out]; exact DsO.nil _ _, hb⟩
  by_cases q5 : i > 1048576
  · have E0 := Lib.hid (layS_no (l := l) (st := st) (k := n) (i := i) (o := o) fun h => by have := h.2.2.2.1; omega)
    have z0 : decide (st < 0) = false := decide_eq_false q0
    have z1 : decide (st > 1099511627776) = false := decide_eq_false q1
    have z2 : decide (n < 0) = false := decide_eq_false q2
    have z3 : decide (n > 16777216) = false := decide_eq_false q3
    have z4 : decide (i < 0) = false := decide_eq_false q4
    have z5 : decide (i > 1048576) = true := decide_eq_true q5
    clear q0 q1 q2 q3 q4 q5
    go_wp2
    exact bodyPost_ret (v := .tuple #[.slice none 0 0, .int .i64 1]) (by simp [results, Try.results12, go_sem]) rfl ⟨_, by rw [E0.out], by rw [E0.out]; exact DsO.nil _ _, hb⟩
  by_cases q6 : o < 0
  · have E0 := Lib.hid (layS_no (l := l) (st := st) (k := n) (i := i) (o := o) fun h => by have := h.2.2.2.2; omega)
    have z0 : decide (st < 0) = false := decide_eq_false q0
    have z1 : decide (st > 1099511627776) = false := decide_eq_false q1
    have z2 : decide (n < 0) = false := decide_eq_false q2
    have z3 : decide (n > 16777216) = false := decide_eq_false q3
    have z4 : decide (i < 0) = false := decide_eq_false q4
    have z5 : decide (i > 1048576) = false := decide_eq_false q5
    have z6 : decide (o < 0) = true := decide_eq_true q6
    clear q0 q1 q2 q3 q4 q5 q6
    go_wp2
    exact bodyPost_ret (v := .tuple #[.slice none 0 0, .int .i64 1]) (by simp [results, Try.results12, go_sem]) rfl ⟨_, by rw [E0.out], by rw [E0.out]; exact DsO.nil _ _, hb⟩
  by_cases q7 : o > 1048576
  · have E0 := Lib.hid (layS_no (l := l) (st := st) (k := n) (i := i) (o := o) fun h => by have := h.2.2.2.2; omega)
    have z0 : decide (st < 0) = false := decide_eq_false q0
    have z1 : decide (st > 1099511627776) = false := decide_eq_false q1
    have z2 : decide (n < 0) = false := decide_eq_false q2
    have z3 : decide (n > 16777216) = false := decide_eq_false q3
    have z4 : decide (i < 0) = false := decide_eq_false q4
    have z5 : decide (i > 1048576) = false := decide_eq_false q5
    have z6 : decide (o < 0) = false := decide_eq_false q6
    have z7 : decide (o > 1048576) = true := decide_eq_true q7
    clear q0 q1 q2 q3 q4 q5 q6 q7
    go_wp2
    exact bodyPost_ret (v := .tuple #[.slice none 0 0, .int .i64 1]) (by simp [results, Try.results12, go_sem]) rfl ⟨_, by rw [E0.out], by rw [E0.out]; exact DsO.nil _ _, hb⟩
  have z0 : decide (st < 0) = false := decide_eq_false q0
  have z1 : decide (st > 1099511627776) = false := decide_eq_false q1
  have z2 : decide (n < 0) = false := decide_eq_false q2
  have z3 : decide (n > 16777216) = false := decide_eq_false q3
  have z4 : decide (i < 0) = false := decide_eq_false q4
  have z5 : decide (i > 1048576) = false := decide_eq_false q5
  have z6 : decide (o < 0) = false := decide_eq_false q6
  have z7 : decide (o > 1048576) = false := decide_eq_false q7
  have E0 := Lib.hid (layS_yes (l := l) (st := st) (k := n) (i := i) (o := o) ⟨q, ⟨by omega, by omega⟩, ⟨by omega, by omega⟩, ⟨by omega, by omega⟩, by omega, by omega⟩)
  have HO := Lib.hid q.2
  have hs65 : sn ≤ 65536 := by have := q.1; have := hlen.out; omega
  clear q
  obtain ⟨nn, rfl⟩ : ∃ nn : Nat, n = nn := ⟨n.toNat, by omega⟩
  go_wp2
  clear z0 z1 z2 z3 z4 z5 z6 z7
  go_loopw [12, 13, 14] (fun x nx k wr => ∃ (q : Nat), q ≤ nn ∧ k = .int .i64 q ∧ nx = .int .i64 (nextOf (layF (runsL l (st - i - o) (q : Int))) q) ∧ DsO wr w.heap.size x (layF (runsL l (st - i - o) (q : Int))) ∧ Below w.heap.size w wr) (fun _ _ k _ => nn - (intOf k).toNat)
  case atStart =>
    have e : runsL l (st - i - o) ((0 : Nat) : Int) = [] := List.filterMap_eq_nil_iff.2 fun s hs => by
      obtain ⟨j, hj, rfl⟩ := List.mem_iff_getElem.1 hs
      exact runH_behind (by show (0 : Int) ≤ max 0 _; omega)
    exact ⟨0, Nat.zero_le _, rfl, by rw [e]; rfl, by rw [e]; exact DsO.nil _ _, hb⟩
  case round =>
    obtain ⟨k, hk, rfl, rfl, hO, hbr⟩ := hrel
    by_cases hlt : k < nn
    case neg =>
      obtain rfl : k = nn := by omega
      have HR := Lib.hid (show _ ∧ _ from ⟨hO, hbr⟩)
      have z1 : decide ((k : Int) < (k : Int)) = false := by simp
      clear hO hbr
      go_wp2
      exact bodyPost_ret (v := .tuple #[u12, .int .i64 0]) (by simp [results, Try.results12, go_sem]) rfl ⟨u12, by rw [E0.out], by rw [E0.out]; exact HR.out.1, HR.out.2⟩
    have z1 : decide ((k : Int) < (nn : Int)) = true := decide_eq_true (by omega)
    have hls := lay_step HO.out (st - i - o) k
    have hok := layF_runs HO.out (st - i - o) (k : Int)
    have hlk : (layF (runsL l (st - i - o) (k : Int))).length ≤ 65536 := by
      have := (foldD_ok (n := (k : Int)) (runsL l (st - i - o) k) [] (runs_ok HO.out) (fun b hb => by cases hb)).2
      have h2 := List.length_filterMap_le (runH (st - i - o) (k : Int)) l
      have h3 := hlen.out
      unfold layF
      unfold runsL at this ⊢
      simp only [List.length_nil] at this
      omega
    have hfk : st - i - o + k = st + k - i - o := by omega
    rw [hfk] at hls
    obtain ⟨y, hy⟩ : ∃ y, y = layF (runsL l (st - i - o) ((k + 1 : Nat) : Int)) := ⟨_, rfl⟩
    rw [← hy] at hls
    have HY := Lib.hid hy
    generalize layF (runsL l (st - i - o) (k : Int)) = xs at *
    obtain ⟨va, vb, vc, rfl, hDs, -, hz, hcp, hmx⟩ := hO.s
    have HI0 := Lib.hid (show _ ∧ _ ∧ _ ∧ _ ∧ _ from ⟨hls.1, hls.2, hok, hO, hbr⟩)
    clear hls hok hO hbr hfk hy hDs hz hcp
    go_wp2_with fail
    refine (rheard_any a sn cap b off l (st + k - i - o) wr (HM.out.grown HI0.out.2.2.2.2) hs65 HO.out (by omega) (by omega)).mono ?_
    rintro e W ⟨rfl, hb3⟩
    have hti := hrd_in HO.out (st + k - i - o)
    generalize hrd l (st + k - i - o) = t at *
    have hbW := below_after HI0.out.2.2.2.2 hb3 HI0.out.2.2.2.2.size
    generalize hml : xs.length = m at *
    have HI := Lib.hid (show xs.length = m ∧ _ ∧ _ from ⟨hml, HI0.out.2.2.2.1.below hb3 (Nat.le_refl _), hbW⟩)
    have hsW : w.heap.size ≤ W.heap.size := hbW.size
    clear hml hb3 hbW
    go_upto_block 2 with fail
    go_cut [12] from 68 to 141 (fun v wx => ∃ v', v = v' ∧ DsO wx w.heap.size v' y ∧ Below w.heap.size W wx)
    case first =>
      by_cases ht : t < 0
      · have z : decide (t < 0) = true := decide_eq_true ht
        have N := Lib.hid (HI0.out.1.trans (if_pos ht))
        go_wp2
        go_meet
        case rel => exact ⟨_, rfl, by rw [N.out]; exact HI.out.2.1, Below.refl _ _⟩
      have z : decide (t < 0) = false := decide_eq_false ht
      have hN := HI0.out.1.trans (if_neg ht)
      by_cases hm0 : m = 0
      · have N := Lib.hid (hN.trans (if_neg fun g => g.1 hm0))
        have hxs := List.eq_nil_of_length_eq_zero (HI.out.1.trans hm0)
        have hon : oneOf xs k t = ((k : Int), 1, t, 0) := by unfold oneOf; rw [if_pos (HI.out.1.trans hm0)]
        rw [hon] at N
        have hmi : ¬ 0 < m := by omega
        clear hxs hon hm0 hN ht
        go_upto_region 14 with fail
        refine wp_region_quiet_below (by kernel_rfl) (by kernel_rfl) ?_
        repeat (go_big_quiet_step ((fail)))
        refine wpQuiet_nil ?_
        intro Wq hbq'
        have hbq := of_regrown hbq'
        clear hbq'
        have hs3 := hbq.size
        have HI5 := Lib.hid (show _ ∧ _ ∧ _ from ⟨HI.out.1, HI.out.2.1.below hbq (Nat.le_refl _), hbq.mono hsW⟩)
        clear hbq
        go_wp2_with (at_builtin; go_loud (refine wpList_append_D rfl (.tmp 68) (.tmp 72) rfl w.heap.size (.slice va m vc) xs rfl (HI5.out.2.1.alloc _) Wq.heap.size (k, 1, t, 0) rfl 52 (0, 0) (blk_new _ _) (by rw [HI5.out.1]; omega) (by first | omega | (simp; omega)) ?_; intro v2 w2 hO2 hB2 hG2; obtain ⟨ga2, gm2, gc2, rfl⟩ : ∃ a m c, v2 = .slice a m c := (by obtain ⟨a', _, c', h', _⟩ := hO2.s; exact ⟨a', _, c', h'⟩); have HP2 := Lib.hid (show _ ∧ _ from ⟨hO2, ((Below.refl w.heap.size Wq).alloc (Nat.le_trans hsW hs3) _).trans hB2⟩); clear hO2 hB2 hG2))
        go_meet
        case rel => exact ⟨_, rfl, by rw [N.out]; exact HP2.out.1, HI5.out.2.2.trans HP2.out.2⟩
      have hmi : 0 < m := by omega
      obtain ⟨g, c', hveq, hgY⟩ := HI.out.2.1.inBlock HI.out.1 (by omega)
      cases hveq
      obtain ⟨J, hJ⟩ : ∃ J, J = m - 1 := ⟨_, rfl⟩
      have hJm : J < m := by omega
      have hw : IntKind.i64.wrap ((m : Int) - 1) = (J : Int) := by rw [IntKind.wrap_i64]; omega
      have hla : nthD xs J = lastD xs := by unfold lastD; rw [HI.out.1, hJ]
      have hlo := HI0.out.2.2.1 _ (lastD_mem (x := xs) (by rw [HI.out.1]; exact hm0))
      rw [← hla] at hlo
      have HJ := Lib.hid (show _ ∧ _ from ⟨hJ, hla⟩)
      have d1 := HI.out.2.1.cellAt HI.out.1 (J * 4 + 1) (by omega)
      rw [(encLD_get xs J (by rw [HI.out.1]; exact hJm)).2.1] at d1
      have d2 := HI.out.2.1.cellAt HI.out.1 (J * 4 + 2) (by omega)
      rw [(encLD_get xs J (by rw [HI.out.1]; exact hJm)).2.2.1] at d2
      have d3 := HI.out.2.1.cellAt HI.out.1 (J * 4 + 3) (by omega)
      rw [(encLD_get xs J (by rw [HI.out.1]; exact hJm)).2.2.2] at d3
      have g1 := HI.out.2.1.freeAt HI.out.1 (J * 4 + 1)
      clear hJ hla
      obtain ⟨nx, hnx⟩ : ∃ nx, nx = nextOf xs k := ⟨_, rfl⟩
      by_cases hgo : t = nextOf xs k
      · have z3 : (t == nextOf xs k) = true := by simpa using hgo
        have N := Lib.hid (hN.trans (if_pos ⟨hm0, hgo⟩))
        have HS := Lib.hid (HI.out.2.1.stored1 HI.out.1 J hJm ((nthD xs J).2.1 + 1))
        have hbS : Below w.heap.size W (W.setCell ⟨g, J * 4 + 1, none⟩ (.int .i64 ((nthD xs J).2.1 + 1))) := (Below.refl _ _).setCell (p := ⟨g, J * 4 + 1, none⟩) hgY _
        have HB := Lib.hid hbS
        have HLO := Lib.hid hlo
        have hlw : -9223372036854775808 ≤ (nthD xs J).2.1 + 1 ∧ (nthD xs J).2.1 + 1 ≤ 9223372036854775807 := by unfold LaidOk at hlo; omega
        clear hN hgo hbS hlo d2 d3 hnx
        go_wp2
        go_meet
        case rel => exact ⟨_, rfl, by
          rw [N.out]
          unfold bump
          rw [HI.out.1, ← HJ.out.1, ← HJ.out.2]
          exact HS.out, HB.out⟩
      have z3 : (t == nextOf xs k) = false := by simpa using hgo
      have hon : oneOf xs k t = ((k : Int), 1, t, if t < (nthD xs J).2.2.1 + (nthD xs J).2.1 then (nthD xs J).2.2.2 + 1 else (nthD xs J).2.2.2) := by
        unfold oneOf
        rw [if_neg (by rw [HI.out.1]; exact hm0), ← HJ.out.2]
        rfl
      have N := Lib.hid (hN.trans (if_neg fun g => hgo g.2))
      generalize nthD xs J = yl at *
      obtain ⟨y0, y1, y2, y3⟩ := yl
      unfold LaidOk at hlo
      dsimp only at d1 d2 d3 hlo hon
      by_cases hp : t < y2 + y1
      · have z4 : decide (t < y2 + y1) = true := decide_eq_true hp
        rw [hon, if_pos hp] at N
        have e1 := cell_regrown d1; have e2 := cell_regrown d2
        go_upto_region 14 with fail
        refine wp_region_quiet_below (by kernel_rfl) (by kernel_rfl) ?_
        repeat (go_big_quiet_step ((fail)))
        refine wpQuiet_nil ?_
        intro Wq hbq'
        have hbq := of_regrown hbq'
        clear hbq'
        have hs3 := hbq.size
        have d3' := (hbq.cell (p := ⟨g, J * 4 + 3, none⟩) (show g < W.heap.size from World.block_lt_of_cell? W _ d3)).trans d3
        have HI5 := Lib.hid (show _ ∧ _ ∧ _ from ⟨HI.out.1, HI.out.2.1.below hbq (Nat.le_refl _), hbq.mono hsW⟩)
        clear d1 d2 d3 g1 hN hon e1 e2 hnx hbq
        go_wp2_with (at_builtin; go_loud (refine wpList_append_D rfl (.tmp 114) (.tmp 125) rfl w.heap.size (.slice (some ⟨g, 0, none⟩) m vc) xs rfl (HI5.out.2.1.alloc _) Wq.heap.size (k, 1, t, y3 + 1) rfl 52 (0, 0) (blk_new _ _) (by rw [HI5.out.1]; omega) (by first | omega | (simp; omega)) ?_; intro v2 w2 hO2 hB2 hG2; obtain ⟨ga2, gm2, gc2, rfl⟩ : ∃ a m c, v2 = .slice a m c := (by obtain ⟨a', _, c', h', _⟩ := hO2.s; exact ⟨a', _, c', h'⟩); have HP2 := Lib.hid (show _ ∧ _ from ⟨hO2, ((Below.refl w.heap.size Wq).alloc (Nat.le_trans hsW hs3) _).trans hB2⟩); clear hO2 hB2 hG2))
        go_meet
        case rel => exact ⟨_, rfl, by rw [N.out]; exact HP2.out.1, HI5.out.2.2.trans HP2.out.2⟩
      · have z4 : decide (t < y2 + y1) = false := decide_eq_false hp
        rw [hon, if_neg hp] at N
        have e1 := cell_regrown d1; have e2 := cell_regrown d2
        go_upto_region 14 with fail
        refine wp_region_quiet_below (by kernel_rfl) (by kernel_rfl) ?_
        repeat (go_big_quiet_step ((fail)))
        refine wpQuiet_nil ?_
        intro Wq hbq'
        have hbq := of_regrown hbq'
        clear hbq'
        have hs3 := hbq.size
        have d3' := (hbq.cell (p := ⟨g, J * 4 + 3, none⟩) (show g < W.heap.size from World.block_lt_of_cell? W _ d3)).trans d3
        have HI5 := Lib.hid (show _ ∧ _ ∧ _ from ⟨HI.out.1, HI.out.2.1.below hbq (Nat.le_refl _), hbq.mono hsW⟩)
        clear d1 d2 d3 g1 hN hon e1 e2 hnx hbq
        go_wp2_with (at_builtin; go_loud (refine wpList_append_D rfl (.tmp 130) (.tmp 140) rfl w.heap.size (.slice (some ⟨g, 0, none⟩) m vc) xs rfl (HI5.out.2.1.alloc _) Wq.heap.size (k, 1, t, y3) rfl 52 (0, 0) (blk_new _ _) (by rw [HI5.out.1]; omega) (by first | omega | (simp; omega)) ?_; intro v2 w2 hO2 hB2 hG2; obtain ⟨ga2, gm2, gc2, rfl⟩ : ∃ a m c, v2 = .slice a m c := (by obtain ⟨a', _, c', h', _⟩ := hO2.s; exact ⟨a', _, c', h'⟩); have HP2 := Lib.hid (show _ ∧ _ from ⟨hO2, ((Below.refl w.heap.size Wq).alloc (Nat.le_trans hsW hs3) _).trans hB2⟩); clear hO2 hB2 hG2))
        go_meet
        case rel => exact ⟨_, rfl, by rw [N.out]; exact HP2.out.1, HI5.out.2.2.trans HP2.out.2⟩
    obtain ⟨v', rfl, hO5, hb5⟩ := hcut
    obtain ⟨wa, wb, wc', rfl, -⟩ := hO5.s
    have HZ := Lib.hid (show _ ∧ _ from ⟨hO5, HI.out.2.2.trans hb5⟩)
    have hnx := HI0.out.2.1
    clear hO5 hb5
    by_cases ht : t < 0
    · have z : decide (t ≥ 0) = false := decide_eq_false (by omega)
      have N := Lib.hid (hnx.trans (if_pos ht))
      clear hnx
      go_wp2
      go_roundw
      case rel => exact ⟨k + 1, by omega, by go_num, by rw [← HY.out, N.out], by rw [← HY.out]; exact HZ.out.1, HZ.out.2⟩
      case measure => simp [intOf]; omega
    · have z : decide (t ≥ 0) = true := decide_eq_true (by omega)
      have N := Lib.hid (hnx.trans (if_neg ht))
      clear hnx
      go_wp2
      go_roundw
      case rel => exact ⟨k + 1, by omega, by go_num, by rw [← HY.out, N.out], by rw [← HY.out]; exact HZ.out.1, HZ.out.2⟩
      case measure => simp [intOf]; omega
end Go.Proofs.Ythnhnmmabjmjgaa
