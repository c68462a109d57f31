/- The walk of MetreBars (layer 10). -/
import Derived.Test.YtkgimglkiniofaaMetreRunM
namespace Go.Proofs.Ytkgimglkiniofaa
open Go.ChangeShapes Go.WideShapes Go.ChangeAt Go.RowKit

set_option maxRecDepth 100000 in
set_option maxHeartbeats 8000000 in
theorem metreBars_walk (a : Option Addr) (b off len cap : Nat) (l : List Mt) (fr mid to tick : Int) (w : World) (hM : Ms w a len b off l) (hn : len ≤ 9223372036854775807) (hb : 0 < len → ∃ c tb fr, w.heap[b]? = some (.cells c tb fr)) :
    Calls Try.prog 7 #[.slice a len cap, .int .i64 fr, .int .i64 mid, .int .i64 to, .int .i64 tick] w fun e w' => e = .returned (.bool true) ∧ Below w.heap.size w w' := by
  have hblk : ∀ W, Below w.heap.size w W → 0 < len → ∃ c tb fr, W.heap[b]? = some (.cells c tb fr) := fun W hW h => by
    obtain ⟨c, tb, fr, h1⟩ := hb h
    exact ⟨c, tb, fr, blk_below h1 hW (Array.getElem?_eq_some_iff.1 h1).1⟩
  have HB := Lib.hid hblk
  have HM := Lib.hid hM
  clear hblk hb hM
  go_enter Try.func7, Try.ntmps7
  go_wp2_with fail
  refine (sane_any w).mono ?_; rintro e w1 ⟨rfl, hB⟩
  by_cases hf : (len : Int) ≤ 100
  case neg =>
    have hf2 : (100 : Int) < (len : Int) := by omega
    go_wp2
    go_ret
    exact ⟨rfl, hB⟩
  have hf2 : ¬ (100 : Int) < (len : Int) := by omega
  go_wp2_with fail
  refine (bars_any a b off len cap l fr to _ (HM.out.grown hB) hn (HB.out _ hB)).mono ?_; rintro e w2 ⟨hb, v, q, A, hR, rfl, hI⟩
  replace hI := hI.mono hB.size
  replace hB := below_after hB hb hB.size
  clear hb
  obtain ⟨v0, b0, c0, rfl, hR1, _, _⟩ := hI.row
  by_cases hq : q = 0
  case neg =>
    have eA := bars_err hR hq
    subst eA
    clear hR hI hR1
    have g1 : (q != 0) = true := by simp [hq]
    go_wp2
    go_ret
    exact ⟨rfl, hB⟩
  subst hq
  obtain ⟨hch, hp, eA, s, m, hrun⟩ := bars_run hR
  have hlen := hrun.len
  have hle := hrun.le
  have H := Lib.hid (show _ ∧ _ ∧ _ ∧ _ ∧ _ ∧ _ from ⟨hch, hp, eA, hrun, hR1, hI⟩)
  clear hR hch hp eA hrun hR1 hI
  generalize hn1 : A.length = n1 at *
  have HN := Lib.hid hn1
  clear hn1
  subst hlen
  go_wp2
  go_loopw [57] (fun i wr => ∃ k : Nat, k ≤ n1 ∧ i = .int .i64 k ∧ Below w.heap.size w wr ∧ Below w2.heap.size w2 wr) (fun i _ => n1 - (intOf i).toNat)
  case atStart => exact ⟨0, Nat.zero_le _, rfl, hB, Below.refl _ _⟩
  case round =>
    obtain ⟨k, hk, rfl, hC, hD⟩ := hrel
    by_cases hlt : k < n1
    · obtain rfl := H.out.2.2.2.2.1.adr (by omega)
      have hcel := (H.out.2.2.2.2.1.below hD (Nat.le_refl _)).cel k hlt
      rw [Nat.zero_add] at hcel
      obtain ⟨x, hx⟩ : ∃ x, x = A.getD k 0 := ⟨_, rfl⟩
      rw [← hx] at hcel
      have hpt := H.out.2.2.2.1.part k hlt
      rw [← hx] at hpt
      have z1 : decide (x < fr) = false := decide_eq_false (by omega)
      have z2 : decide (to ≤ x) = false := decide_eq_false (by omega)
      have HX := Lib.hid hx
      clear hx hpt
      go_wp2_with fail
      refine (place_any a b off len cap l x _ (HM.out.grown hC) hn (HB.out _ hC)).mono ?_; rintro e w4 ⟨hb, B, bt, o, r, hT, rfl⟩
      rw [HX.out] at hT
      obtain ⟨rfl, rfl, rfl, rfl⟩ := H.out.2.2.2.1.place H.out.1 H.out.2.1.2.2 hlt hT
      clear hT
      have hC4 := below_after hC hb hC.size
      have hD4 := below_after hD hb hD.size
      have hcel4 := (hb.cell (p := ⟨b0, k, none⟩) (World.block_lt_of_cell? _ _ hcel)).trans hcel
      clear hb hC hD
      rcases Nat.eq_zero_or_pos k with rfl | hk0
      · go_wp2
        go_roundw
        case rel => exact ⟨0 + 1, by omega, by go_num, hC4, hD4⟩
        case measure => simp [intOf]; omega
      · obtain ⟨j, rfl⟩ : ∃ j, k = j + 1 := ⟨k - 1, by omega⟩
        have hcelj := (H.out.2.2.2.2.1.below hD4 (Nat.le_refl _)).cel j (by omega)
        rw [Nat.zero_add] at hcelj
        have hxy := H.out.2.2.2.1.lt H.out.1 (i := j) (by omega)
        have hS : ((s + (j + 1) : Nat) : Int) = ((s + j : Nat) : Int) + 1 := by omega
        have hb5 := H.out.2.2.2.1.bars
        obtain ⟨y, hy⟩ : ∃ y, y = A.getD j 0 := ⟨_, rfl⟩
        rw [← hy, ← HX.out] at hxy
        rw [← hy] at hcelj
        have z3 : decide (x ≤ y) = false := decide_eq_false (by omega)
        have e1 : ((j + 1 : Nat) : Int) - 1 = (j : Int) := by omega
        have e2 : decide (0 < ((j + 1 : Nat) : Int)) = true := decide_eq_true (by omega)
        obtain ⟨S, hS1⟩ : ∃ S : Int, S = ((s + j : Nat) : Int) := ⟨_, rfl⟩
        rw [hS, ← hS1]
        have HS := Lib.hid (show _ ∧ _ ∧ _ ∧ _ from ⟨hS1, hS, hy, hxy⟩)
        have u1 : IntKind.i64.wrap (S + 1) = S + 1 := wrap_id (by omega)
        clear hS1 hS hy hxy hb5
        by_cases q1 : 50 < ((j + 1 : Nat) : Int)
        case neg =>
          have z4 : decide (50 < ((j + 1 : Nat) : Int)) = false := decide_eq_false q1
          go_wp2_with fail
          refine (place_any a b off len cap l y _ (HM.out.grown hC4) hn (HB.out _ hC4)).mono ?_; rintro e w5 ⟨hb, B, bt, o, r, hT, rfl⟩
          rw [HS.out.2.2.1] at hT
          obtain ⟨rfl, rfl, rfl, rfl⟩ := H.out.2.2.2.1.place H.out.1 H.out.2.1.2.2 (show j < n1 by omega) hT
          rw [← HS.out.1]
          clear hT
          have hC5 := below_after hC4 hb hC4.size
          have hD5 := below_after hD4 hb hD4.size
          clear hb
          go_wp2_with fail
          refine (place_any a b off len cap l x _ (HM.out.grown hC5) hn (HB.out _ hC5)).mono ?_; rintro e w6 ⟨hb, B, bt, o, r, hT, rfl⟩
          rw [HX.out] at hT
          obtain ⟨rfl, rfl, rfl, rfl⟩ := H.out.2.2.2.1.place H.out.1 H.out.2.1.2.2 hlt hT
          rw [HS.out.2.1, ← HS.out.1]
          clear hT
          have hC6 := below_after hC5 hb hC5.size
          have hD6 := below_after hD5 hb hD5.size
          clear hb hC5 hD5
          go_wp2
          go_roundw
          case rel => exact ⟨j + 1 + 1, by omega, by go_num, hC6, hD6⟩
          case measure => simp [intOf]; omega
        case pos =>
          have z4 : decide (50 < ((j + 1 : Nat) : Int)) = true := decide_eq_true q1
          by_cases q2 : ((j + 1 : Nat) : Int) < (n1 : Int) - 50
          case neg =>
            have z5 : decide (((j + 1 : Nat) : Int) < (n1 : Int) - 50) = false := decide_eq_false q2
            go_wp2_with fail
            refine (place_any a b off len cap l y _ (HM.out.grown hC4) hn (HB.out _ hC4)).mono ?_; rintro e w5 ⟨hb, B, bt, o, r, hT, rfl⟩
            rw [HS.out.2.2.1] at hT
            obtain ⟨rfl, rfl, rfl, rfl⟩ := H.out.2.2.2.1.place H.out.1 H.out.2.1.2.2 (show j < n1 by omega) hT
            rw [← HS.out.1]
            clear hT
            have hC5 := below_after hC4 hb hC4.size
            have hD5 := below_after hD4 hb hD4.size
            clear hb
            go_wp2_with fail
            refine (place_any a b off len cap l x _ (HM.out.grown hC5) hn (HB.out _ hC5)).mono ?_; rintro e w6 ⟨hb, B, bt, o, r, hT, rfl⟩
            rw [HX.out] at hT
            obtain ⟨rfl, rfl, rfl, rfl⟩ := H.out.2.2.2.1.place H.out.1 H.out.2.1.2.2 hlt hT
            rw [HS.out.2.1, ← HS.out.1]
            clear hT
            have hC6 := below_after hC5 hb hC5.size
            have hD6 := below_after hD5 hb hD5.size
            clear hb hC5 hD5
            go_wp2
            go_roundw
            case rel => exact ⟨j + 1 + 1, by omega, by go_num, hC6, hD6⟩
            case measure => simp [intOf]; omega
          case pos =>
            have z5 : decide (((j + 1 : Nat) : Int) < (n1 : Int) - 50) = true := decide_eq_true q2
            by_cases q3 : x = tick
            case pos =>
              have z6 : (x != tick) = false := by simp [q3]
              clear q3
              go_wp2_with fail
              refine (place_any a b off len cap l y _ (HM.out.grown hC4) hn (HB.out _ hC4)).mono ?_; rintro e w5 ⟨hb, B, bt, o, r, hT, rfl⟩
              rw [HS.out.2.2.1] at hT
              obtain ⟨rfl, rfl, rfl, rfl⟩ := H.out.2.2.2.1.place H.out.1 H.out.2.1.2.2 (show j < n1 by omega) hT
              rw [← HS.out.1]
              clear hT
              have hC5 := below_after hC4 hb hC4.size
              have hD5 := below_after hD4 hb hD4.size
              clear hb
              go_wp2_with fail
              refine (place_any a b off len cap l x _ (HM.out.grown hC5) hn (HB.out _ hC5)).mono ?_; rintro e w6 ⟨hb, B, bt, o, r, hT, rfl⟩
              rw [HX.out] at hT
              obtain ⟨rfl, rfl, rfl, rfl⟩ := H.out.2.2.2.1.place H.out.1 H.out.2.1.2.2 hlt hT
              rw [HS.out.2.1, ← HS.out.1]
              clear hT
              have hC6 := below_after hC5 hb hC5.size
              have hD6 := below_after hD5 hb hD5.size
              clear hb hC5 hD5
              go_wp2
              go_roundw
              case rel => exact ⟨j + 1 + 1, by omega, by go_num, hC6, hD6⟩
              case measure => simp [intOf]; omega
            case neg =>
              have z6 : (x != tick) = true := by simp [q3]
              clear q3
              go_wp2
              go_roundw
              case rel => exact ⟨j + 1 + 1, by omega, by go_num, hC4, hD4⟩
              case measure => simp [intOf]; omega
    · obtain rfl : n1 = k := by omega
      by_cases t1 : fr ≤ tick
      case neg =>
        have s1 : decide (fr ≤ tick) = false := decide_eq_false t1
        by_cases p1 : mid < fr
        case pos =>
          have n1' : decide (mid < fr) = true := decide_eq_true p1
          go_wp2
          go_ret
          exact ⟨rfl, hC⟩
        case neg =>
          have n1' : decide (mid < fr) = false := decide_eq_false p1
          by_cases p2 : to < mid
          case pos =>
            have n2' : decide (to < mid) = true := decide_eq_true p2
            go_wp2
            go_ret
            exact ⟨rfl, hC⟩
          case neg =>
            have n2' : decide (to < mid) = false := decide_eq_false p2
            have eP := (outK_parts H.out.1 (fr := fr) (mid := mid) (to := to) (by omega) (by omega)).trans H.out.2.2.1.symm
            obtain ⟨l1, l2⟩ := parts_len eP (by rw [HN.out]; exact hle)
            have HP := Lib.hid (show _ ∧ _ ∧ _ from ⟨eP, l1, l2⟩)
            have hp1 : 0 ≤ fr ∧ fr ≤ mid ∧ mid ≤ 16777216 := by have := H.out.2.1; omega
            have hp2 : 0 ≤ mid ∧ mid ≤ to ∧ to ≤ 16777216 := by have := H.out.2.1; omega
            clear eP l1 l2
            go_wp2_with fail
            refine (bars_any a b off len cap l fr mid _ (HM.out.grown hC) hn (HB.out _ hC)).mono ?_; rintro e w6 ⟨hb, vx, qx, AX, hRX, rfl, hIX⟩
            obtain ⟨rfl, eAX⟩ := bars_of hRX H.out.1 hp1 HP.out.2.1
            clear hRX
            have EAX := Lib.hid eAX; clear eAX
            have hC6 := below_after hC hb hC.size
            have hD6 := below_after hD hb hD.size
            clear hb
            obtain ⟨v6, b6, c6, rfl, hR6, _, _⟩ := hIX.row
            have hN6 := hIX.noCap
            clear hIX
            go_wp2_with fail
            refine (bars_any a b off len cap l mid to _ (HM.out.grown hC6) hn (HB.out _ hC6)).mono ?_; rintro e w7 ⟨hb, vy, qy, AY, hRY, rfl, hIY⟩
            obtain ⟨rfl, eAY⟩ := bars_of hRY H.out.1 hp2 HP.out.2.2
            clear hRY
            have EAY := Lib.hid eAY; clear eAY
            have hC7 := below_after hC6 hb hC6.size
            have hD7 := below_after hD6 hb hD6.size
            have hR67 := hR6.below hb (Nat.le_refl _)
            clear hb hR6
            obtain ⟨v7, b7, c7, rfl, hR7, _, _⟩ := hIY.row
            have hN7 := hIY.noCap
            clear hIY
            have eXY : AX ++ AY = A := by rw [EAX.out, EAY.out]; exact HP.out.1
            have s67 : AX.length + AY.length = n1 := by rw [← HN.out, ← eXY, List.length_append]
            generalize hx6 : AX.length = n6 at *
            generalize hx7 : AY.length = n7 at *
            have HZ := Lib.hid (show _ ∧ _ ∧ _ ∧ _ ∧ _ ∧ _ ∧ _ ∧ _ ∧ _ from ⟨eXY, hx6, hx7, hR67, hR7, hN6, hN7, hC7, hD7⟩)
            have hs7 := hC7.size
            have hd7 := hD7.size
            clear eXY hx6 hx7 hR67 hR7 hN6 hN7 EAX EAY hC7 hD7
            go_wp2_with (first
              | (at_builtin; (refine wpList_append_row_open rfl (.tmp 214) (.tmp 215) rfl w7.heap.size _ _ rfl (Ints.empty w7) _ _ _ _ _ _ rfl (HZ.out.2.2.2.1.below ((Below.refl _ _).alloc (Nat.le_refl _) _) (Nat.le_refl _)) HZ.out.2.2.2.2.2.1 (by simp; omega) (by simp) ?_; intro v8 w8 hO8 hB8 _))
              | (at_builtin; (refine wpList_append_row_open rfl (.tmp 216) (.tmp 217) rfl w7.heap.size _ _ rfl hO8 _ _ _ _ _ _ rfl (HZ.out.2.2.2.2.1.below (((Below.refl _ _).alloc (Nat.le_refl _) _).trans hB8) (Nat.le_refl _)) HZ.out.2.2.2.2.2.2.1 (by have := HZ.out.2.1; simp; omega) (by have := hB8.size; simp at this; omega) ?_; intro v9 w9 hO9 hB9 _; rw [List.nil_append, HZ.out.1] at hO9; obtain ⟨v10, b10, c10, e10, hR10, _, _⟩ := hO9.row; rw [HN.out] at e10 hR10; subst e10; clear hO9))
              | (go_at_call 19; go_loud (refine (same_any v10 v0 b10 b0 0 0 n1 n1 c10 c0 A A w9 hR10 (H.out.2.2.2.2.1.below (((HZ.out.2.2.2.2.2.2.2.2.alloc hd7 _).trans (hB8.mono hd7)).trans (hB9.mono hd7)) (Nat.le_refl _)) (by omega) (by omega) rfl).mono ?_; rintro e w10 ⟨rfl, hb⟩)))
            go_ret
            exact ⟨rfl, below_after (((HZ.out.2.2.2.2.2.2.2.1.alloc hs7 _).trans (hB8.mono hs7)).trans (hB9.mono hs7)) hb (by have h8 := hB8.size; have h9 := hB9.size; simp at h8 h9; omega)⟩
      case pos =>
      have s1 : decide (fr ≤ tick) = true := decide_eq_true t1
      by_cases t2 : tick < to
      case neg =>
        have s2 : decide (tick < to) = false := decide_eq_false t2
        by_cases p1 : mid < fr
        case pos =>
          have n1' : decide (mid < fr) = true := decide_eq_true p1
          go_wp2
          go_ret
          exact ⟨rfl, hC⟩
        case neg =>
          have n1' : decide (mid < fr) = false := decide_eq_false p1
          by_cases p2 : to < mid
          case pos =>
            have n2' : decide (to < mid) = true := decide_eq_true p2
            go_wp2
            go_ret
            exact ⟨rfl, hC⟩
          case neg =>
            have n2' : decide (to < mid) = false := decide_eq_false p2
            have eP := (outK_parts H.out.1 (fr := fr) (mid := mid) (to := to) (by omega) (by omega)).trans H.out.2.2.1.symm
            obtain ⟨l1, l2⟩ := parts_len eP (by rw [HN.out]; exact hle)
            have HP := Lib.hid (show _ ∧ _ ∧ _ from ⟨eP, l1, l2⟩)
            have hp1 : 0 ≤ fr ∧ fr ≤ mid ∧ mid ≤ 16777216 := by have := H.out.2.1; omega
            have hp2 : 0 ≤ mid ∧ mid ≤ to ∧ to ≤ 16777216 := by have := H.out.2.1; omega
            clear eP l1 l2
            go_wp2_with fail
            refine (bars_any a b off len cap l fr mid _ (HM.out.grown hC) hn (HB.out _ hC)).mono ?_; rintro e w6 ⟨hb, vx, qx, AX, hRX, rfl, hIX⟩
            obtain ⟨rfl, eAX⟩ := bars_of hRX H.out.1 hp1 HP.out.2.1
            clear hRX
            have EAX := Lib.hid eAX; clear eAX
            have hC6 := below_after hC hb hC.size
            have hD6 := below_after hD hb hD.size
            clear hb
            obtain ⟨v6, b6, c6, rfl, hR6, _, _⟩ := hIX.row
            have hN6 := hIX.noCap
            clear hIX
            go_wp2_with fail
            refine (bars_any a b off len cap l mid to _ (HM.out.grown hC6) hn (HB.out _ hC6)).mono ?_; rintro e w7 ⟨hb, vy, qy, AY, hRY, rfl, hIY⟩
            obtain ⟨rfl, eAY⟩ := bars_of hRY H.out.1 hp2 HP.out.2.2
            clear hRY
            have EAY := Lib.hid eAY; clear eAY
            have hC7 := below_after hC6 hb hC6.size
            have hD7 := below_after hD6 hb hD6.size
            have hR67 := hR6.below hb (Nat.le_refl _)
            clear hb hR6
            obtain ⟨v7, b7, c7, rfl, hR7, _, _⟩ := hIY.row
            have hN7 := hIY.noCap
            clear hIY
            have eXY : AX ++ AY = A := by rw [EAX.out, EAY.out]; exact HP.out.1
            have s67 : AX.length + AY.length = n1 := by rw [← HN.out, ← eXY, List.length_append]
            generalize hx6 : AX.length = n6 at *
            generalize hx7 : AY.length = n7 at *
            have HZ := Lib.hid (show _ ∧ _ ∧ _ ∧ _ ∧ _ ∧ _ ∧ _ ∧ _ ∧ _ from ⟨eXY, hx6, hx7, hR67, hR7, hN6, hN7, hC7, hD7⟩)
            have hs7 := hC7.size
            have hd7 := hD7.size
            clear eXY hx6 hx7 hR67 hR7 hN6 hN7 EAX EAY hC7 hD7
            go_wp2_with (first
              | (at_builtin; (refine wpList_append_row_open rfl (.tmp 214) (.tmp 215) rfl w7.heap.size _ _ rfl (Ints.empty w7) _ _ _ _ _ _ rfl (HZ.out.2.2.2.1.below ((Below.refl _ _).alloc (Nat.le_refl _) _) (Nat.le_refl _)) HZ.out.2.2.2.2.2.1 (by simp; omega) (by simp) ?_; intro v8 w8 hO8 hB8 _))
              | (at_builtin; (refine wpList_append_row_open rfl (.tmp 216) (.tmp 217) rfl w7.heap.size _ _ rfl hO8 _ _ _ _ _ _ rfl (HZ.out.2.2.2.2.1.below (((Below.refl _ _).alloc (Nat.le_refl _) _).trans hB8) (Nat.le_refl _)) HZ.out.2.2.2.2.2.2.1 (by have := HZ.out.2.1; simp; omega) (by have := hB8.size; simp at this; omega) ?_; intro v9 w9 hO9 hB9 _; rw [List.nil_append, HZ.out.1] at hO9; obtain ⟨v10, b10, c10, e10, hR10, _, _⟩ := hO9.row; rw [HN.out] at e10 hR10; subst e10; clear hO9))
              | (go_at_call 19; go_loud (refine (same_any v10 v0 b10 b0 0 0 n1 n1 c10 c0 A A w9 hR10 (H.out.2.2.2.2.1.below (((HZ.out.2.2.2.2.2.2.2.2.alloc hd7 _).trans (hB8.mono hd7)).trans (hB9.mono hd7)) (Nat.le_refl _)) (by omega) (by omega) rfl).mono ?_; rintro e w10 ⟨rfl, hb⟩)))
            go_ret
            exact ⟨rfl, below_after (((HZ.out.2.2.2.2.2.2.2.1.alloc hs7 _).trans (hB8.mono hs7)).trans (hB9.mono hs7)) hb (by have h8 := hB8.size; have h9 := hB9.size; simp at h8 h9; omega)⟩
      case pos =>
      have s2 : decide (tick < to) = true := decide_eq_true t2
      go_wp2_with fail
      refine (place_any a b off len cap l tick _ (HM.out.grown hC) hn (HB.out _ hC)).mono ?_; rintro e w3 ⟨hb, B, bt, o, r, hT, rfl⟩
      have hPM := place_mem H.out.1 H.out.2.1.2.2 t1 t2 hT
      rw [← H.out.2.2.1] at hPM
      clear hT
      replace hC := below_after hC hb hC.size
      replace hD := below_after hD hb hD.size
      clear hb
      have HPM := Lib.hid hPM; clear hPM
      go_wp2
      go_loopw [31, 162] (fun v i wr => ∃ k : Nat, k ≤ n1 ∧ i = .int .i64 k ∧ v = .bool (inA A tick k) ∧ Below w.heap.size w wr ∧ Below w2.heap.size w2 wr) (fun _ i _ => n1 - (intOf i).toNat)
      case atStart => exact ⟨0, Nat.zero_le _, rfl, rfl, hC, hD⟩
      case round =>
        clear hC hD
        obtain ⟨k, hk, rfl, rfl, hC, hD⟩ := hrel
        by_cases hlt : k < n1
        · obtain rfl := H.out.2.2.2.2.1.adr (by omega)
          have hcel := (H.out.2.2.2.2.1.below hD (Nat.le_refl _)).cel k hlt
          rw [Nat.zero_add] at hcel
          have eS := inA_succ A tick (k := k) (by rw [HN.out]; exact hlt)
          obtain ⟨x, hx⟩ : ∃ x, x = A.getD k 0 := ⟨_, rfl⟩
          rw [← hx] at hcel eS
          have HX := Lib.hid hx
          clear hx
          obtain ⟨bv, hbv⟩ : ∃ bv, bv = inA A tick k := ⟨_, rfl⟩
          rw [← hbv] at eS ⊢
          have HES := Lib.hid (show _ ∧ _ from ⟨eS, hbv⟩)
          clear eS hbv
          cases bv
          · by_cases q3 : x = tick
            · have z6 : (x == tick) = true := by simp [q3]
              clear q3
              go_wp2
              go_roundw
              case rel => exact ⟨k + 1, by omega, by go_num, by rw [HES.out.1, z6]; rfl, hC, hD⟩
              case measure => simp [intOf]; omega
            · have z6 : (x == tick) = false := by simp [q3]
              clear q3
              go_wp2
              go_roundw
              case rel => exact ⟨k + 1, by omega, by go_num, by rw [HES.out.1, z6]; rfl, hC, hD⟩
              case measure => simp [intOf]; omega
          · go_wp2
            go_roundw
            case rel => exact ⟨k + 1, by omega, by go_num, by rw [HES.out.1]; rfl, hC, hD⟩
            case measure => simp [intOf]; omega
        · obtain rfl : n1 = k := by omega
          have eS := inA_all A tick
          rw [HN.out] at eS
          obtain ⟨bv, hbv⟩ : ∃ bv, bv = inA A tick n1 := ⟨_, rfl⟩
          rw [← hbv] at eS ⊢
          have hPB : bv = true ↔ (r = 0 ∧ bt = 0 ∧ o = 0) := eS.trans HPM.out
          clear eS hbv HPM
          cases bv
          · have hN : ¬ (r = 0 ∧ bt = 0 ∧ o = 0) := fun h => by have := hPB.2 h; cases this
            clear hPB
            by_cases g1 : r = 0
            · subst g1
              by_cases g2 : bt = 0
              · subst g2
                have g3 : ¬ o = 0 := fun h => hN ⟨rfl, rfl, h⟩
                clear hN
                have g3' : (o == 0) = false := by simp [g3]
                clear g3
                by_cases p1 : mid < fr
                case pos =>
                  have n1' : decide (mid < fr) = true := decide_eq_true p1
                  go_wp2
                  go_ret
                  exact ⟨rfl, hC⟩
                case neg =>
                  have n1' : decide (mid < fr) = false := decide_eq_false p1
                  by_cases p2 : to < mid
                  case pos =>
                    have n2' : decide (to < mid) = true := decide_eq_true p2
                    go_wp2
                    go_ret
                    exact ⟨rfl, hC⟩
                  case neg =>
                    have n2' : decide (to < mid) = false := decide_eq_false p2
                    have eP := (outK_parts H.out.1 (fr := fr) (mid := mid) (to := to) (by omega) (by omega)).trans H.out.2.2.1.symm
                    obtain ⟨l1, l2⟩ := parts_len eP (by rw [HN.out]; exact hle)
                    have HP := Lib.hid (show _ ∧ _ ∧ _ from ⟨eP, l1, l2⟩)
                    have hp1 : 0 ≤ fr ∧ fr ≤ mid ∧ mid ≤ 16777216 := by have := H.out.2.1; omega
                    have hp2 : 0 ≤ mid ∧ mid ≤ to ∧ to ≤ 16777216 := by have := H.out.2.1; omega
                    clear eP l1 l2
                    go_wp2_with fail
                    refine (bars_any a b off len cap l fr mid _ (HM.out.grown hC) hn (HB.out _ hC)).mono ?_; rintro e w6 ⟨hb, vx, qx, AX, hRX, rfl, hIX⟩
                    obtain ⟨rfl, eAX⟩ := bars_of hRX H.out.1 hp1 HP.out.2.1
                    clear hRX
                    have EAX := Lib.hid eAX; clear eAX
                    have hC6 := below_after hC hb hC.size
                    have hD6 := below_after hD hb hD.size
                    clear hb
                    obtain ⟨v6, b6, c6, rfl, hR6, _, _⟩ := hIX.row
                    have hN6 := hIX.noCap
                    clear hIX
                    go_wp2_with fail
                    refine (bars_any a b off len cap l mid to _ (HM.out.grown hC6) hn (HB.out _ hC6)).mono ?_; rintro e w7 ⟨hb, vy, qy, AY, hRY, rfl, hIY⟩
                    obtain ⟨rfl, eAY⟩ := bars_of hRY H.out.1 hp2 HP.out.2.2
                    clear hRY
                    have EAY := Lib.hid eAY; clear eAY
                    have hC7 := below_after hC6 hb hC6.size
                    have hD7 := below_after hD6 hb hD6.size
                    have hR67 := hR6.below hb (Nat.le_refl _)
                    clear hb hR6
                    obtain ⟨v7, b7, c7, rfl, hR7, _, _⟩ := hIY.row
                    have hN7 := hIY.noCap
                    clear hIY
                    have eXY : AX ++ AY = A := by rw [EAX.out, EAY.out]; exact HP.out.1
                    have s67 : AX.length + AY.length = n1 := by rw [← HN.out, ← eXY, List.length_append]
                    generalize hx6 : AX.length = n6 at *
                    generalize hx7 : AY.length = n7 at *
                    have HZ := Lib.hid (show _ ∧ _ ∧ _ ∧ _ ∧ _ ∧ _ ∧ _ ∧ _ ∧ _ from ⟨eXY, hx6, hx7, hR67, hR7, hN6, hN7, hC7, hD7⟩)
                    have hs7 := hC7.size
                    have hd7 := hD7.size
                    clear eXY hx6 hx7 hR67 hR7 hN6 hN7 EAX EAY hC7 hD7
                    go_wp2_with (first
                      | (at_builtin; (refine wpList_append_row_open rfl (.tmp 214) (.tmp 215) rfl w7.heap.size _ _ rfl (Ints.empty w7) _ _ _ _ _ _ rfl (HZ.out.2.2.2.1.below ((Below.refl _ _).alloc (Nat.le_refl _) _) (Nat.le_refl _)) HZ.out.2.2.2.2.2.1 (by simp; omega) (by simp) ?_; intro v8 w8 hO8 hB8 _))
                      | (at_builtin; (refine wpList_append_row_open rfl (.tmp 216) (.tmp 217) rfl w7.heap.size _ _ rfl hO8 _ _ _ _ _ _ rfl (HZ.out.2.2.2.2.1.below (((Below.refl _ _).alloc (Nat.le_refl _) _).trans hB8) (Nat.le_refl _)) HZ.out.2.2.2.2.2.2.1 (by have := HZ.out.2.1; simp; omega) (by have := hB8.size; simp at this; omega) ?_; intro v9 w9 hO9 hB9 _; rw [List.nil_append, HZ.out.1] at hO9; obtain ⟨v10, b10, c10, e10, hR10, _, _⟩ := hO9.row; rw [HN.out] at e10 hR10; subst e10; clear hO9))
                      | (go_at_call 19; go_loud (refine (same_any v10 v0 b10 b0 0 0 n1 n1 c10 c0 A A w9 hR10 (H.out.2.2.2.2.1.below (((HZ.out.2.2.2.2.2.2.2.2.alloc hd7 _).trans (hB8.mono hd7)).trans (hB9.mono hd7)) (Nat.le_refl _)) (by omega) (by omega) rfl).mono ?_; rintro e w10 ⟨rfl, hb⟩)))
                    go_ret
                    exact ⟨rfl, below_after (((HZ.out.2.2.2.2.2.2.2.1.alloc hs7 _).trans (hB8.mono hs7)).trans (hB9.mono hs7)) hb (by have h8 := hB8.size; have h9 := hB9.size; simp at h8 h9; omega)⟩
              · have g2' : (bt == 0) = false := by simp [g2]
                clear g2 hN
                by_cases p1 : mid < fr
                case pos =>
                  have n1' : decide (mid < fr) = true := decide_eq_true p1
                  go_wp2
                  go_ret
                  exact ⟨rfl, hC⟩
                case neg =>
                  have n1' : decide (mid < fr) = false := decide_eq_false p1
                  by_cases p2 : to < mid
                  case pos =>
                    have n2' : decide (to < mid) = true := decide_eq_true p2
                    go_wp2
                    go_ret
                    exact ⟨rfl, hC⟩
                  case neg =>
                    have n2' : decide (to < mid) = false := decide_eq_false p2
                    have eP := (outK_parts H.out.1 (fr := fr) (mid := mid) (to := to) (by omega) (by omega)).trans H.out.2.2.1.symm
                    obtain ⟨l1, l2⟩ := parts_len eP (by rw [HN.out]; exact hle)
                    have HP := Lib.hid (show _ ∧ _ ∧ _ from ⟨eP, l1, l2⟩)
                    have hp1 : 0 ≤ fr ∧ fr ≤ mid ∧ mid ≤ 16777216 := by have := H.out.2.1; omega
                    have hp2 : 0 ≤ mid ∧ mid ≤ to ∧ to ≤ 16777216 := by have := H.out.2.1; omega
                    clear eP l1 l2
                    go_wp2_with fail
                    refine (bars_any a b off len cap l fr mid _ (HM.out.grown hC) hn (HB.out _ hC)).mono ?_; rintro e w6 ⟨hb, vx, qx, AX, hRX, rfl, hIX⟩
                    obtain ⟨rfl, eAX⟩ := bars_of hRX H.out.1 hp1 HP.out.2.1
                    clear hRX
                    have EAX := Lib.hid eAX; clear eAX
                    have hC6 := below_after hC hb hC.size
                    have hD6 := below_after hD hb hD.size
                    clear hb
                    obtain ⟨v6, b6, c6, rfl, hR6, _, _⟩ := hIX.row
                    have hN6 := hIX.noCap
                    clear hIX
                    go_wp2_with fail
                    refine (bars_any a b off len cap l mid to _ (HM.out.grown hC6) hn (HB.out _ hC6)).mono ?_; rintro e w7 ⟨hb, vy, qy, AY, hRY, rfl, hIY⟩
                    obtain ⟨rfl, eAY⟩ := bars_of hRY H.out.1 hp2 HP.out.2.2
                    clear hRY
                    have EAY := Lib.hid eAY; clear eAY
                    have hC7 := below_after hC6 hb hC6.size
                    have hD7 := below_after hD6 hb hD6.size
                    have hR67 := hR6.below hb (Nat.le_refl _)
                    clear hb hR6
                    obtain ⟨v7, b7, c7, rfl, hR7, _, _⟩ := hIY.row
                    have hN7 := hIY.noCap
                    clear hIY
                    have eXY : AX ++ AY = A := by rw [EAX.out, EAY.out]; exact HP.out.1
                    have s67 : AX.length + AY.length = n1 := by rw [← HN.out, ← eXY, List.length_append]
                    generalize hx6 : AX.length = n6 at *
                    generalize hx7 : AY.length = n7 at *
                    have HZ := Lib.hid (show _ ∧ _ ∧ _ ∧ _ ∧ _ ∧ _ ∧ _ ∧ _ ∧ _ from ⟨eXY, hx6, hx7, hR67, hR7, hN6, hN7, hC7, hD7⟩)
                    have hs7 := hC7.size
                    have hd7 := hD7.size
                    clear eXY hx6 hx7 hR67 hR7 hN6 hN7 EAX EAY hC7 hD7
                    go_wp2_with (first
                      | (at_builtin; (refine wpList_append_row_open rfl (.tmp 214) (.tmp 215) rfl w7.heap.size _ _ rfl (Ints.empty w7) _ _ _ _ _ _ rfl (HZ.out.2.2.2.1.below ((Below.refl _ _).alloc (Nat.le_refl _) _) (Nat.le_refl _)) HZ.out.2.2.2.2.2.1 (by simp; omega) (by simp) ?_; intro v8 w8 hO8 hB8 _))
                      | (at_builtin; (refine wpList_append_row_open rfl (.tmp 216) (.tmp 217) rfl w7.heap.size _ _ rfl hO8 _ _ _ _ _ _ rfl (HZ.out.2.2.2.2.1.below (((Below.refl _ _).alloc (Nat.le_refl _) _).trans hB8) (Nat.le_refl _)) HZ.out.2.2.2.2.2.2.1 (by have := HZ.out.2.1; simp; omega) (by have := hB8.size; simp at this; omega) ?_; intro v9 w9 hO9 hB9 _; rw [List.nil_append, HZ.out.1] at hO9; obtain ⟨v10, b10, c10, e10, hR10, _, _⟩ := hO9.row; rw [HN.out] at e10 hR10; subst e10; clear hO9))
                      | (go_at_call 19; go_loud (refine (same_any v10 v0 b10 b0 0 0 n1 n1 c10 c0 A A w9 hR10 (H.out.2.2.2.2.1.below (((HZ.out.2.2.2.2.2.2.2.2.alloc hd7 _).trans (hB8.mono hd7)).trans (hB9.mono hd7)) (Nat.le_refl _)) (by omega) (by omega) rfl).mono ?_; rintro e w10 ⟨rfl, hb⟩)))
                    go_ret
                    exact ⟨rfl, below_after (((HZ.out.2.2.2.2.2.2.2.1.alloc hs7 _).trans (hB8.mono hs7)).trans (hB9.mono hs7)) hb (by have h8 := hB8.size; have h9 := hB9.size; simp at h8 h9; omega)⟩
            · have g1' : (r == 0) = false := by simp [g1]
              clear g1 hN
              by_cases p1 : mid < fr
              case pos =>
                have n1' : decide (mid < fr) = true := decide_eq_true p1
                go_wp2
                go_ret
                exact ⟨rfl, hC⟩
              case neg =>
                have n1' : decide (mid < fr) = false := decide_eq_false p1
                by_cases p2 : to < mid
                case pos =>
                  have n2' : decide (to < mid) = true := decide_eq_true p2
                  go_wp2
                  go_ret
                  exact ⟨rfl, hC⟩
                case neg =>
                  have n2' : decide (to < mid) = false := decide_eq_false p2
                  have eP := (outK_parts H.out.1 (fr := fr) (mid := mid) (to := to) (by omega) (by omega)).trans H.out.2.2.1.symm
                  obtain ⟨l1, l2⟩ := parts_len eP (by rw [HN.out]; exact hle)
                  have HP := Lib.hid (show _ ∧ _ ∧ _ from ⟨eP, l1, l2⟩)
                  have hp1 : 0 ≤ fr ∧ fr ≤ mid ∧ mid ≤ 16777216 := by have := H.out.2.1; omega
                  have hp2 : 0 ≤ mid ∧ mid ≤ to ∧ to ≤ 16777216 := by have := H.out.2.1; omega
                  clear eP l1 l2
                  go_wp2_with fail
                  refine (bars_any a b off len cap l fr mid _ (HM.out.grown hC) hn (HB.out _ hC)).mono ?_; rintro e w6 ⟨hb, vx, qx, AX, hRX, rfl, hIX⟩
                  obtain ⟨rfl, eAX⟩ := bars_of hRX H.out.1 hp1 HP.out.2.1
                  clear hRX
                  have EAX := Lib.hid eAX; clear eAX
                  have hC6 := below_after hC hb hC.size
                  have hD6 := below_after hD hb hD.size
                  clear hb
                  obtain ⟨v6, b6, c6, rfl, hR6, _, _⟩ := hIX.row
                  have hN6 := hIX.noCap
                  clear hIX
                  go_wp2_with fail
                  refine (bars_any a b off len cap l mid to _ (HM.out.grown hC6) hn (HB.out _ hC6)).mono ?_; rintro e w7 ⟨hb, vy, qy, AY, hRY, rfl, hIY⟩
                  obtain ⟨rfl, eAY⟩ := bars_of hRY H.out.1 hp2 HP.out.2.2
                  clear hRY
                  have EAY := Lib.hid eAY; clear eAY
                  have hC7 := below_after hC6 hb hC6.size
                  have hD7 := below_after hD6 hb hD6.size
                  have hR67 := hR6.below hb (Nat.le_refl _)
                  clear hb hR6
                  obtain ⟨v7, b7, c7, rfl, hR7, _, _⟩ := hIY.row
                  have hN7 := hIY.noCap
                  clear hIY
                  have eXY : AX ++ AY = A := by rw [EAX.out, EAY.out]; exact HP.out.1
                  have s67 : AX.length + AY.length = n1 := by rw [← HN.out, ← eXY, List.length_append]
                  generalize hx6 : AX.length = n6 at *
                  generalize hx7 : AY.length = n7 at *
                  have HZ := Lib.hid (show _ ∧ _ ∧ _ ∧ _ ∧ _ ∧ _ ∧ _ ∧ _ ∧ _ from ⟨eXY, hx6, hx7, hR67, hR7, hN6, hN7, hC7, hD7⟩)
                  have hs7 := hC7.size
                  have hd7 := hD7.size
                  clear eXY hx6 hx7 hR67 hR7 hN6 hN7 EAX EAY hC7 hD7
                  go_wp2_with (first
                    | (at_builtin; (refine wpList_append_row_open rfl (.tmp 214) (.tmp 215) rfl w7.heap.size _ _ rfl (Ints.empty w7) _ _ _ _ _ _ rfl (HZ.out.2.2.2.1.below ((Below.refl _ _).alloc (Nat.le_refl _) _) (Nat.le_refl _)) HZ.out.2.2.2.2.2.1 (by simp; omega) (by simp) ?_; intro v8 w8 hO8 hB8 _))
                    | (at_builtin; (refine wpList_append_row_open rfl (.tmp 216) (.tmp 217) rfl w7.heap.size _ _ rfl hO8 _ _ _ _ _ _ rfl (HZ.out.2.2.2.2.1.below (((Below.refl _ _).alloc (Nat.le_refl _) _).trans hB8) (Nat.le_refl _)) HZ.out.2.2.2.2.2.2.1 (by have := HZ.out.2.1; simp; omega) (by have := hB8.size; simp at this; omega) ?_; intro v9 w9 hO9 hB9 _; rw [List.nil_append, HZ.out.1] at hO9; obtain ⟨v10, b10, c10, e10, hR10, _, _⟩ := hO9.row; rw [HN.out] at e10 hR10; subst e10; clear hO9))
                    | (go_at_call 19; go_loud (refine (same_any v10 v0 b10 b0 0 0 n1 n1 c10 c0 A A w9 hR10 (H.out.2.2.2.2.1.below (((HZ.out.2.2.2.2.2.2.2.2.alloc hd7 _).trans (hB8.mono hd7)).trans (hB9.mono hd7)) (Nat.le_refl _)) (by omega) (by omega) rfl).mono ?_; rintro e w10 ⟨rfl, hb⟩)))
                  go_ret
                  exact ⟨rfl, below_after (((HZ.out.2.2.2.2.2.2.2.1.alloc hs7 _).trans (hB8.mono hs7)).trans (hB9.mono hs7)) hb (by have h8 := hB8.size; have h9 := hB9.size; simp at h8 h9; omega)⟩
          · obtain ⟨rfl, rfl, rfl⟩ := hPB.1 rfl
            clear hPB
            by_cases p1 : mid < fr
            case pos =>
              have n1' : decide (mid < fr) = true := decide_eq_true p1
              go_wp2
              go_ret
              exact ⟨rfl, hC⟩
            case neg =>
              have n1' : decide (mid < fr) = false := decide_eq_false p1
              by_cases p2 : to < mid
              case pos =>
                have n2' : decide (to < mid) = true := decide_eq_true p2
                go_wp2
                go_ret
                exact ⟨rfl, hC⟩
              case neg =>
                have n2' : decide (to < mid) = false := decide_eq_false p2
                have eP := (outK_parts H.out.1 (fr := fr) (mid := mid) (to := to) (by omega) (by omega)).trans H.out.2.2.1.symm
                obtain ⟨l1, l2⟩ := parts_len eP (by rw [HN.out]; exact hle)
                have HP := Lib.hid (show _ ∧ _ ∧ _ from ⟨eP, l1, l2⟩)
                have hp1 : 0 ≤ fr ∧ fr ≤ mid ∧ mid ≤ 16777216 := by have := H.out.2.1; omega
                have hp2 : 0 ≤ mid ∧ mid ≤ to ∧ to ≤ 16777216 := by have := H.out.2.1; omega
                clear eP l1 l2
                go_wp2_with fail
                refine (bars_any a b off len cap l fr mid _ (HM.out.grown hC) hn (HB.out _ hC)).mono ?_; rintro e w6 ⟨hb, vx, qx, AX, hRX, rfl, hIX⟩
                obtain ⟨rfl, eAX⟩ := bars_of hRX H.out.1 hp1 HP.out.2.1
                clear hRX
                have EAX := Lib.hid eAX; clear eAX
                have hC6 := below_after hC hb hC.size
                have hD6 := below_after hD hb hD.size
                clear hb
                obtain ⟨v6, b6, c6, rfl, hR6, _, _⟩ := hIX.row
                have hN6 := hIX.noCap
                clear hIX
                go_wp2_with fail
                refine (bars_any a b off len cap l mid to _ (HM.out.grown hC6) hn (HB.out _ hC6)).mono ?_; rintro e w7 ⟨hb, vy, qy, AY, hRY, rfl, hIY⟩
                obtain ⟨rfl, eAY⟩ := bars_of hRY H.out.1 hp2 HP.out.2.2
                clear hRY
                have EAY := Lib.hid eAY; clear eAY
                have hC7 := below_after hC6 hb hC6.size
                have hD7 := below_after hD6 hb hD6.size
                have hR67 := hR6.below hb (Nat.le_refl _)
                clear hb hR6
                obtain ⟨v7, b7, c7, rfl, hR7, _, _⟩ := hIY.row
                have hN7 := hIY.noCap
                clear hIY
                have eXY : AX ++ AY = A := by rw [EAX.out, EAY.out]; exact HP.out.1
                have s67 : AX.length + AY.length = n1 := by rw [← HN.out, ← eXY, List.length_append]
                generalize hx6 : AX.length = n6 at *
                generalize hx7 : AY.length = n7 at *
                have HZ := Lib.hid (show _ ∧ _ ∧ _ ∧ _ ∧ _ ∧ _ ∧ _ ∧ _ ∧ _ from ⟨eXY, hx6, hx7, hR67, hR7, hN6, hN7, hC7, hD7⟩)
                have hs7 := hC7.size
                have hd7 := hD7.size
                clear eXY hx6 hx7 hR67 hR7 hN6 hN7 EAX EAY hC7 hD7
                go_wp2_with (first
                  | (at_builtin; (refine wpList_append_row_open rfl (.tmp 214) (.tmp 215) rfl w7.heap.size _ _ rfl (Ints.empty w7) _ _ _ _ _ _ rfl (HZ.out.2.2.2.1.below ((Below.refl _ _).alloc (Nat.le_refl _) _) (Nat.le_refl _)) HZ.out.2.2.2.2.2.1 (by simp; omega) (by simp) ?_; intro v8 w8 hO8 hB8 _))
                  | (at_builtin; (refine wpList_append_row_open rfl (.tmp 216) (.tmp 217) rfl w7.heap.size _ _ rfl hO8 _ _ _ _ _ _ rfl (HZ.out.2.2.2.2.1.below (((Below.refl _ _).alloc (Nat.le_refl _) _).trans hB8) (Nat.le_refl _)) HZ.out.2.2.2.2.2.2.1 (by have := HZ.out.2.1; simp; omega) (by have := hB8.size; simp at this; omega) ?_; intro v9 w9 hO9 hB9 _; rw [List.nil_append, HZ.out.1] at hO9; obtain ⟨v10, b10, c10, e10, hR10, _, _⟩ := hO9.row; rw [HN.out] at e10 hR10; subst e10; clear hO9))
                  | (go_at_call 19; go_loud (refine (same_any v10 v0 b10 b0 0 0 n1 n1 c10 c0 A A w9 hR10 (H.out.2.2.2.2.1.below (((HZ.out.2.2.2.2.2.2.2.2.alloc hd7 _).trans (hB8.mono hd7)).trans (hB9.mono hd7)) (Nat.le_refl _)) (by omega) (by omega) rfl).mono ?_; rintro e w10 ⟨rfl, hb⟩)))
                go_ret
                exact ⟨rfl, below_after (((HZ.out.2.2.2.2.2.2.2.1.alloc hs7 _).trans (hB8.mono hs7)).trans (hB9.mono hs7)) hb (by have h8 := hB8.size; have h9 := hB9.size; simp at h8 h9; omega)⟩
end Go.Proofs.Ytkgimglkiniofaa
