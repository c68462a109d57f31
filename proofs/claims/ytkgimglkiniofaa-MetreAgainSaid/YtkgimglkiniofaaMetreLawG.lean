/- The walk of MetreAgain (layer 10). -/
import Derived.Test.YtkgimglkiniofaaMetreMore
namespace Go.Proofs.Ytkgimglkiniofaa
open Go.ChangeShapes Go.WideShapes Go.ChangeAt Go.RowKit

theorem blk_new2 (w : World) (o o2 : Obj) : ((w.alloc o).alloc o2).heap[w.heap.size + 1]? = some o2 := by
  have := blk_new (w.alloc o) o2
  rwa [World.size_alloc] at this

theorem blk_has {w w' : World} {n b : Nat} (h : 0 < n → ∃ c tb fr, w.heap[b]? = some (.cells c tb fr)) (hb : Below w.heap.size w w') : 0 < n → ∃ c tb fr, w'.heap[b]? = some (.cells c tb fr) := fun hn => by
  obtain ⟨c, tb, fr, h1⟩ := h hn
  exact ⟨c, tb, fr, blk_below h1 hb (Array.getElem?_eq_some_iff.1 h1).1⟩

set_option maxRecDepth 100000 in
set_option maxHeartbeats 8000000 in
theorem metreAgain_walk (a : Option Addr) (b off len cap : Nat) (l : List Mt) (bar tick fr to : Int) (w : World) (hM : Ms w a len b off l) (hn : len ≤ 9223372036854775807) (hb : 0 < len → ∃ c tb fr, w.heap[b]? = some (.cells c tb fr)) :
    Calls Try.prog 8 #[.slice a len cap, .int .i64 bar, .int .i64 tick, .int .i64 fr, .int .i64 to] w fun e w' => e = .returned (.bool true) ∧ Below w.heap.size w w' := by
  have hblk : ∀ W, Below w.heap.size w W → 0 < len → ∃ c tb fr, W.heap[b]? = some (.cells c tb fr) := fun W hW h => by
    obtain ⟨c, tb, fr, h1⟩ := hb h
    exact ⟨c, tb, fr, blk_below h1 hW (Array.getElem?_eq_some_iff.1 h1).1⟩
  have HB := Lib.hid hblk
  have HM := Lib.hid hM
  clear hblk hb hM
  go_enter Try.func8, Try.ntmps8
  go_wp2_with fail
  refine (sane_any w).mono ?_; rintro e w1 ⟨rfl, hB⟩
  by_cases hf : (len : Int) < 64
  case neg =>
    have hf2 : (64 : Int) ≤ (len : Int) := by omega
    go_wp2
    go_ret
    exact ⟨rfl, hB⟩
  have hf2 : ¬ (64 : Int) ≤ (len : Int) := by omega
  go_wp2_with fail
  refine (rmcheck_any a len cap b off l _ (HM.out.grown hB) hn).mono ?_; rintro e w2 ⟨rfl, hb⟩
  replace hB := below_after hB hb hB.size
  clear hb
  by_cases hch : Changes l
  case neg =>
    rw [chk_no hch]
    clear hch
    go_wp2
    go_ret
    exact ⟨rfl, hB⟩
  rw [chk_yes hch]
  by_cases hb0 : 0 ≤ bar
  case neg =>
    have g0 : bar < 0 := by omega
    clear hch
    go_wp2
    go_ret
    exact ⟨rfl, hB⟩
  by_cases hb1 : bar ≤ 1048576
  case neg =>
    have g0 : ¬ bar < 0 := by omega
    have g1 : 1048576 < bar := by omega
    clear hch
    go_wp2
    go_ret
    exact ⟨rfl, hB⟩
  have g0 : ¬ bar < 0 := by omega
  have g1 : ¬ 1048576 < bar := by omega
  obtain ⟨k1, k2, k3⟩ := ofK_end hch hb0 (by omega)
  have hll : l.length = len := HM.out.1
  rw [hll] at k1 k2 k3
  obtain ⟨rfl, _⟩ := HM.out.2.1 (by omega)
  go_wp2_with fail
  refine (of_any _ len cap b off l bar _ (HM.out.grown hB) hch).mono ?_; rintro e w3 ⟨rfl, hb⟩
  replace hB := below_after hB hb hB.size
  clear hb
  generalize ofK l bar len = k at *
  have hs3 := hB.size
  by_cases hm : (nthM l k).1 = bar
  case pos =>
    obtain ⟨X, hX⟩ : ∃ X, X = nthM l k := ⟨_, rfl⟩
    rw [← hX] at hm ⊢
    obtain ⟨X0, X1, X2⟩ := X
    dsimp only at hm ⊢
    clear hX k1 k2 k3 hch
    subst hm
    go_wp2
    go_ret
    exact ⟨rfl, hB.alloc hs3 _⟩
  obtain ⟨M, hMe⟩ : ∃ M, M = (bar, (nthM l k).2.1, (nthM l k).2.2) := ⟨_, rfl⟩
  obtain ⟨X, hX⟩ : ∃ X, X = nthM l k := ⟨_, rfl⟩
  have b1 : (nthM l k).1 < bar := by omega
  have hIns := insL_ins (l := l) hMe (show k < l.length by omega) b1 k3 hb1
  rw [hll] at hIns
  have hlo : ∀ j, j ≤ k → (nthM l j).1 < bar := fun j hj => bar_lo hch hj (by omega) b1
  have hhi : ∀ j, k < j → j < len → bar < (nthM l j).1 := fun j h1 h2 => bar_hi hch h1 (by omega) k3
  have hcm := hIns.changes hch (by omega)
  rw [← hX] at hMe hm ⊢
  obtain ⟨X0, X1, X2⟩ := X
  dsimp only at hMe hm ⊢
  have HI := Lib.hid (show _ ∧ _ ∧ _ ∧ _ ∧ _ ∧ _ from ⟨hIns, hch, hcm, hlo, hhi, hMe⟩)
  clear hIns hch hcm hlo hhi hMe hX k2 k3 b1
  have hm2 : (X0 == bar) = false := by simp [hm]
  have hm3 : ¬ bar = X0 := fun h => hm h.symm
  go_wp2
  go_loopw [12, 54] (fun v i wr => ∃ j n : Nat, j ≤ len ∧ i = .int .i64 j ∧ (n = j ∧ j ≤ k + 1 ∨ n = j + 1 ∧ k + 1 < j) ∧ Trs wr (w3.heap.size + 1) v (insL l k M n) ∧ wr.heap[w3.heap.size]? = some (.cells #[.int .i64 X0, .int .i64 X1, .int .i64 X2] 38 (0, 0)) ∧ Below w3.heap.size w3 wr) (fun _ i _ => len - (intOf i).toNat)
  case atStart => exact ⟨0, 0, Nat.zero_le _, rfl, .inl ⟨rfl, Nat.zero_le _⟩, Trs.nil _ _, blk_new w3 _, (Below.refl _ _).alloc (Nat.le_refl _) _⟩
  case round =>
    obtain ⟨j, n, hj, rfl, hjn, hT, hm, hD⟩ := hrel
    have hC := below_after hB hD hs3
    obtain ⟨a5, g5, c5, e5, hM5, hb5⟩ := hT.ms
    rw [insL_len] at e5 hM5 hb5
    subst e5
    have hsz := hD.size
    have m0 := blk_cell hm 0; have m1 := blk_cell hm 1; have m2 := blk_cell hm 2
    have hmw : w3.heap.size < wr.heap.size := (Array.getElem?_eq_some_iff.1 hm).1
    simp at m0 m1 m2
    by_cases hlt : j < len
    · obtain ⟨c0, c1, c2⟩ := (HM.out.grown hC).2.2 j hlt
      obtain ⟨Y, hY⟩ : ∃ Y, Y = nthM l j := ⟨_, rfl⟩
      rw [← hY] at c0 c1 c2
      by_cases hjk : j ≤ k
      · have hlo := HI.out.2.2.2.1 j hjk
        rw [← hY] at hlo
        obtain ⟨Y0, Y1, Y2⟩ := Y
        dsimp only at c0 c1 c2 hlo
        have d1 : decide (bar < Y0) = false := decide_eq_false (by omega)
        have hnn : n = j := by omega
        have hR := Lib.hid (show _ ∧ _ ∧ _ ∧ _ ∧ _ from ⟨hY, hjn, hm, hD, hnn⟩)
        have hnl : n ≤ 64 := by omega
        clear hY hjn hm hD hC hM5 hb5 hlo hnn
        go_wp2_with (at_builtin; (refine wpList_append_m rfl _ _ rfl (w3.heap.size + 1) _ _ rfl ((hT.alloc _).alloc _) _ (Y0, Y1, Y2) rfl _ _ (blk_new2 _ _ _) (by rw [insL_len]; omega) (by simp; omega) ?_; intro v' w5 hT1 hB1 hG))
        have eL : insL l k M (n + 1) = insL l k M n ++ [(Y0, Y1, Y2)] := by
          rw [insL_succ, insN_lo _ _ (by have := hR.out.2.2.2.2; omega), hR.out.2.2.2.2, hR.out.1]
        have HT := Lib.hid (show _ ∧ _ ∧ _ from ⟨hT1, eL, hB1⟩)
        clear hT1 eL hB1 hG
        go_roundw
        case rel => exact ⟨j + 1, n + 1, by omega, by go_num, by have := hR.out.2.2.2.2; omega, by rw [HT.out.2.1]; exact HT.out.1, blk_below (blk_alloc (blk_alloc hR.out.2.2.1 _) _) HT.out.2.2 (by omega), ((hR.out.2.2.2.1.alloc hsz _).alloc (by simp; omega) _).trans (HT.out.2.2.mono (by omega))⟩
        case measure => simp [intOf]; omega
      have hhi := HI.out.2.2.2.2.1 j (by omega) hlt
      rw [← hY] at hhi
      obtain ⟨Y0, Y1, Y2⟩ := Y
      dsimp only at c0 c1 c2 hhi
      have d1 : decide (bar < Y0) = true := decide_eq_true hhi
      have hn0 : 0 < n := by omega
      obtain ⟨p, hp⟩ : ∃ p, n = p + 1 := ⟨n - 1, by omega⟩
      obtain ⟨rfl, hb6⟩ := hM5.2.1 hn0
      have h0 := (hM5.2.2 p (by omega)).1
      rw [Nat.zero_add, insL_nth _ _ _ (by omega)] at h0
      have d2 : decide ((n : Int) = 0) = false := decide_eq_false (by omega)
      have e1 : (n : Int) - 1 = (p : Int) := by omega
      have hpc : (p : Int) < (n : Int) := by omega
      by_cases hj1 : j = k + 1
      · have hnn : n = k + 1 := by omega
        have hlast := HI.out.2.2.2.1 k (Nat.le_refl _)
        rw [insN_lo _ _ (by omega), show p = k by omega] at h0
        obtain ⟨Z, hZ⟩ : ∃ Z, Z = (nthM l k).1 := ⟨_, rfl⟩
        rw [← hZ] at h0 hlast
        have d3 : decide (Z < bar) = true := decide_eq_true hlast
        have hpk : p = k := by omega
        have hR := Lib.hid (show _ ∧ _ ∧ _ ∧ _ ∧ _ ∧ _ ∧ _ from ⟨hY, hjn, hm, hD, hnn, hj1, hp⟩)
        have hnl : n ≤ 64 := by omega
        rw [← hpk] at h0
        have hxne : ∀ q, (Value.slice (some ⟨g5, 0, none⟩) n c5).ownBlock = some q → q < wr.heap.size := fun q h => (World.ownsRow.lt hT q h).2
        have HNE := Lib.hid hxne
        clear hY hjn hD hC hM5 hb5 hhi hnn hlast hZ hpk hj1 hp hxne
        go_wp2_with (first
          | (at_builtin; (refine wpList_append_m rfl (.tmp 78) (.tmp 85) rfl (w3.heap.size + 1) _ _ rfl ((hT.alloc _).alloc _) _ (bar, X1, X2) rfl _ _ (blk_new2 _ _ _) (by rw [insL_len]; omega) (by simp; omega) ?_; intro v' w5 hT1 hB1 hG; have hx5 := (hG.block wr.heap.size (by simp; omega) (fun h => absurd (HNE.out _ h.symm) (Nat.lt_irrefl _))).trans (blk_alloc (blk_new wr _) _); have hs5 := hB1.size; simp at hs5; have x0 := blk_cell hx5 0; have x1 := blk_cell hx5 1; have x2 := blk_cell hx5 2; simp at x0 x1 x2; have HX5 := Lib.hid (show _ ∧ _ from ⟨hB1, hG⟩); clear hB1 hG hx5))
          | (at_builtin; go_loud (refine wpList_append_m rfl (.tmp 87) (.tmp 89) rfl (w3.heap.size + 1) _ _ rfl (hT1.alloc _) _ (Y0, Y1, Y2) rfl _ _ (blk_new _ _) (by rw [List.length_append, insL_len]; simp; omega) (by simp; omega) ?_; intro v6 w6 hT6 hB6 _)))
        have eL : insL l k M (n + 1 + 1) = insL l k M n ++ [(bar, X1, X2)] ++ [(Y0, Y1, Y2)] := by
          have q5 := hR.out.2.2.2.2.1
          have q6 := hR.out.2.2.2.2.2.1
          have q1 := hR.out.1
          rw [insL_succ, insL_succ, q5, insN_at, insN_hi _ _ (by omega), HI.out.2.2.2.2.2, q1, q6]
        have HT := Lib.hid (show _ ∧ _ ∧ _ from ⟨hT6, eL, hB6⟩)
        clear hT6 eL hB6
        go_roundw
        case rel => exact ⟨j + 1, n + 1 + 1, by omega, by go_num, by have := hR.out.2.2.2.2; omega, by rw [HT.out.2.1]; exact HT.out.1, blk_below (blk_alloc (blk_below (blk_alloc (blk_alloc hR.out.2.2.1 _) _) HX5.out.1 (by omega)) _) HT.out.2.2 (by omega), ((((hR.out.2.2.2.1.alloc hsz _).alloc (by simp; omega) _).trans (HX5.out.1.mono (by omega))).alloc (by omega) _).trans (HT.out.2.2.mono (by omega))⟩
        case measure => simp [intOf]; omega
      · have hnn : n = j + 1 := by omega
        have hpj : p = j := by omega
        obtain ⟨i, hi⟩ : ∃ i, j = i + 1 := ⟨j - 1, by omega⟩
        have hlast := HI.out.2.2.2.2.1 i (by omega) (by omega)
        rw [hpj, hi, insN_hi _ _ (by omega), ← hi] at h0
        obtain ⟨Z, hZ⟩ : ∃ Z, Z = (nthM l i).1 := ⟨_, rfl⟩
        rw [← hZ] at h0 hlast
        have d3 : decide (Z < bar) = false := decide_eq_false (by omega)
        have hR := Lib.hid (show _ ∧ _ ∧ _ ∧ _ ∧ _ ∧ _ ∧ _ ∧ _ from ⟨hY, hjn, hm, hD, hnn, hj1, hp, hi⟩)
        have hnl : n ≤ 64 := by omega
        rw [← hpj] at h0
        clear hY hjn hm hD hC hM5 hb5 hhi hlast hZ hpj hj1 hp hi hnn
        go_wp2_with (at_builtin; (refine wpList_append_m rfl _ _ rfl (w3.heap.size + 1) _ _ rfl ((hT.alloc _).alloc _) _ (Y0, Y1, Y2) rfl _ _ (blk_new2 _ _ _) (by rw [insL_len]; omega) (by simp; omega) ?_; intro v' w5 hT1 hB1 hG))
        have eL : insL l k M (n + 1) = insL l k M n ++ [(Y0, Y1, Y2)] := by
          have q5 := hR.out.2.2.2.2.1
          have q1 := hR.out.1
          rw [insL_succ, q5, insN_hi _ _ (by have := hR.out.2.1; omega), q1]
        have HT := Lib.hid (show _ ∧ _ ∧ _ from ⟨hT1, eL, hB1⟩)
        clear hT1 eL hB1 hG
        go_roundw
        case rel => exact ⟨j + 1, n + 1, by omega, by go_num, by have := hR.out.2.2.2.2.1; have := hR.out.2.1; omega, by rw [HT.out.2.1]; exact HT.out.1, blk_below (blk_alloc (blk_alloc hR.out.2.2.1 _) _) HT.out.2.2 (by omega), ((hR.out.2.2.2.1.alloc hsz _).alloc (by simp; omega) _).trans (HT.out.2.2.mono (by omega))⟩
        case measure => simp [intOf]; omega
    · have hjl : len = j := by omega
      subst hjl
      by_cases hn1 : n = k + 1
      · have hnj : n = len := by omega
        have hlast := HI.out.2.2.2.1 k (Nat.le_refl _)
        obtain ⟨rfl, hb6⟩ := hM5.2.1 (by omega)
        have h0 := (hM5.2.2 k (by omega)).1
        rw [Nat.zero_add, insL_nth _ _ _ (by omega), insN_lo _ _ (Nat.le_refl _)] at h0
        obtain ⟨Z, hZ⟩ : ∃ Z, Z = (nthM l k).1 := ⟨_, rfl⟩
        rw [← hZ] at h0 hlast
        have d3 : decide (Z < bar) = true := decide_eq_true hlast
        have e1 : (n : Int) - 1 = (k : Int) := by omega
        have e2 : k < n := by omega
        have hnl : n ≤ 64 := by omega
        have eN : insN l k M n = (bar, X1, X2) := by rw [hn1, insN_at]; exact HI.out.2.2.2.2.2
        have hR := Lib.hid (show _ ∧ _ ∧ _ ∧ _ ∧ _ from ⟨hn1, hnj, hD, hm, eN⟩)
        clear eN hjn hm hD hM5 hb5 hlast hZ hn1 hnj
        go_wp2_with (at_builtin; go_loud (refine wpList_append_m rfl _ _ rfl (w3.heap.size + 1) _ _ rfl (hT.alloc _) _ (bar, X1, X2) rfl _ _ (blk_new _ _) (by rw [insL_len]; omega) (by simp; omega) ?_; intro v6 w6 hT1 hB6 _; have hC6 := (hC.alloc (Nat.le_trans hs3 hsz) _).trans (hB6.mono (by omega)); have hT6 : Trs w6 (w3.heap.size + 1) v6 (insL l k M (len + 1)) := (by rw [← hR.out.2.1, insL_succ, hR.out.2.2.2.2]; exact hT1); clear hT1 hT hC hB6 hB; obtain ⟨a6, g6, c6, e6, hM6, hb6⟩ := hT6.ms; rw [insL_len] at e6 hM6 hb6; subst e6; have HM6 := Lib.hid (show _ ∧ _ from ⟨hM6, hb6⟩); clear hM6 hb6 hT6))
        refine (place_any _ b off len cap l tick _ (HM.out.grown hC6) hn (HB.out _ hC6)).mono ?_; rintro e w7 ⟨hb, B, bt, o, r, hP1, rfl⟩
        have hC7 := below_after hC6 hb hC6.size
        have HM7 := Lib.hid (show _ ∧ _ from ⟨HM6.out.1.grown hb, blk_has HM6.out.2 hb⟩)
        clear hb HM6 hC6
        have HP1 := Lib.hid hP1; clear hP1
        go_wp2_with fail
        refine (place_any a6 g6 0 (len + 1) c6 (insL l k M (len + 1)) tick _ HM7.out.1 (by omega) HM7.out.2).mono ?_; rintro e w8 ⟨hb, B2, bt2, o2, r2, hP2, rfl⟩
        obtain ⟨rfl, rfl, rfl, rfl⟩ := HI.out.1.place HI.out.2.1 HI.out.2.2.1 HP1.out hP2
        have hC8 := below_after hC7 hb hC7.size
        have HM8 := Lib.hid (show _ ∧ _ from ⟨HM7.out.1.grown hb, blk_has HM7.out.2 hb⟩)
        clear hb HM7 hC7 hP2 HP1
        go_wp2_with fail
        refine (bars_any _ b off len cap l fr to _ (HM.out.grown hC8) hn (HB.out _ hC8)).mono ?_; rintro e w9 ⟨hb, vx, qx, AX, hRX, rfl, hIX⟩
        have hC9 := below_after hC8 hb hC8.size
        have HM9 := Lib.hid (show _ ∧ _ from ⟨HM8.out.1.grown hb, blk_has HM8.out.2 hb⟩)
        have hAX := barsRes_len hRX
        obtain ⟨v9, b9, c9, rfl, hR9, _, _⟩ := hIX.row
        have HRX := Lib.hid (show _ ∧ _ from ⟨hRX, hR9⟩)
        clear hb HM8 hC8 hRX hR9 hIX
        go_wp2_with fail
        refine (bars_any a6 g6 0 (len + 1) c6 (insL l k M (len + 1)) fr to _ HM9.out.1 (by omega) HM9.out.2).mono ?_; rintro e w10 ⟨hb, vy, qy, AY, hRY, rfl, hIY⟩
        obtain ⟨rfl, rfl⟩ := HI.out.1.bars HI.out.2.1 HI.out.2.2.1 HRX.out.1 hRY
        have hC10 := below_after hC9 hb hC9.size
        obtain ⟨v10, b10, c10, rfl, hR10, _, _⟩ := hIY.row
        have hR9 := HRX.out.2.below hb (Nat.le_refl _)
        clear hb HM9 hC9 hRY hIY HRX
        have HRR := Lib.hid (show _ ∧ _ from ⟨hR9, hR10⟩)
        clear hR9 hR10
        go_wp2_with fail
        refine (same_any v9 v10 b9 b10 0 0 _ _ c9 c10 AX AX w10 HRR.out.1 HRR.out.2 (by omega) (by omega) rfl).mono ?_; rintro e w11 ⟨rfl, hb⟩
        have hC11 := below_after hC10 hb hC10.size
        clear hb
        go_wp2
        go_ret
        exact ⟨rfl, hC11⟩
      · obtain rfl : n = len + 1 := by omega
        obtain ⟨rfl, hb6⟩ := hM5.2.1 (by omega)
        have h0 := (hM5.2.2 len (by omega)).1
        obtain ⟨i, hi⟩ : ∃ i, len = i + 1 := ⟨len - 1, by omega⟩
        have hlast := HI.out.2.2.2.2.1 i (by omega) (by omega)
        have hN : insN l k M len = nthM l i := by rw [hi]; exact insN_hi _ _ (by omega)
        rw [Nat.zero_add, insL_nth _ _ _ (by omega), hN] at h0
        obtain ⟨Z, hZ⟩ : ∃ Z, Z = (nthM l i).1 := ⟨_, rfl⟩
        rw [← hZ] at h0 hlast
        have d3 : decide (Z < bar) = false := decide_eq_false (by omega)
        have HM6 := Lib.hid (show _ ∧ _ from ⟨hM5, hb5⟩)
        have hC6 := hC
        clear hC hT hM5 hb5 hi hN hlast hZ hjn hm hD
        go_wp2_with fail
        refine (place_any _ b off len cap l tick _ (HM.out.grown hC6) hn (HB.out _ hC6)).mono ?_; rintro e w7 ⟨hb, B, bt, o, r, hP1, rfl⟩
        have hC7 := below_after hC6 hb hC6.size
        have HM7 := Lib.hid (show _ ∧ _ from ⟨HM6.out.1.grown hb, blk_has HM6.out.2 hb⟩)
        clear hb HM6 hC6
        have HP1 := Lib.hid hP1; clear hP1
        go_wp2_with fail
        refine (place_any (some ⟨g5, 0, none⟩) g5 0 (len + 1) c5 (insL l k M (len + 1)) tick _ HM7.out.1 (by omega) HM7.out.2).mono ?_; rintro e w8 ⟨hb, B2, bt2, o2, r2, hP2, rfl⟩
        obtain ⟨rfl, rfl, rfl, rfl⟩ := HI.out.1.place HI.out.2.1 HI.out.2.2.1 HP1.out hP2
        have hC8 := below_after hC7 hb hC7.size
        have HM8 := Lib.hid (show _ ∧ _ from ⟨HM7.out.1.grown hb, blk_has HM7.out.2 hb⟩)
        clear hb HM7 hC7 hP2 HP1
        go_wp2_with fail
        refine (bars_any _ b off len cap l fr to _ (HM.out.grown hC8) hn (HB.out _ hC8)).mono ?_; rintro e w9 ⟨hb, vx, qx, AX, hRX, rfl, hIX⟩
        have hC9 := below_after hC8 hb hC8.size
        have HM9 := Lib.hid (show _ ∧ _ from ⟨HM8.out.1.grown hb, blk_has HM8.out.2 hb⟩)
        have hAX := barsRes_len hRX
        obtain ⟨v9, b9, c9, rfl, hR9, _, _⟩ := hIX.row
        have HRX := Lib.hid (show _ ∧ _ from ⟨hRX, hR9⟩)
        clear hb HM8 hC8 hRX hR9 hIX
        go_wp2_with fail
        refine (bars_any (some ⟨g5, 0, none⟩) g5 0 (len + 1) c5 (insL l k M (len + 1)) fr to _ HM9.out.1 (by omega) HM9.out.2).mono ?_; rintro e w10 ⟨hb, vy, qy, AY, hRY, rfl, hIY⟩
        obtain ⟨rfl, rfl⟩ := HI.out.1.bars HI.out.2.1 HI.out.2.2.1 HRX.out.1 hRY
        have hC10 := below_after hC9 hb hC9.size
        obtain ⟨v10, b10, c10, rfl, hR10, _, _⟩ := hIY.row
        have hR9 := HRX.out.2.below hb (Nat.le_refl _)
        clear hb HM9 hC9 hRY hIY HRX
        have HRR := Lib.hid (show _ ∧ _ from ⟨hR9, hR10⟩)
        clear hR9 hR10
        go_wp2_with fail
        refine (same_any v9 v10 b9 b10 0 0 _ _ c9 c10 AX AX w10 HRR.out.1 HRR.out.2 (by omega) (by omega) rfl).mono ?_; rintro e w11 ⟨rfl, hb⟩
        have hC11 := below_after hC10 hb hC10.size
        clear hb
        go_wp2
        go_ret
        exact ⟨rfl, hC11⟩
end Go.Proofs.Ytkgimglkiniofaa
