/- The walk of FixedMixed (layer 8): its text. -/
import Derived.Test.YtcljkjachaecoaaFixMixed2
import Derived.Deep.Cut
namespace Go.Proofs.Ytcljkjachaecoaa
open Go.ChangeShapes Go.WideShapes Go.ChangeAt Go.RowKit Go.Shelf

set_option maxRecDepth 100000 in
set_option maxHeartbeats 8000000 in
theorem fixedMixed_walk (a : Option Addr) (b off n cap : Nat) (l : List Int) (turn x : Int) (w : World) (hR : Row w a b off n l) (hnc : a = none → cap = 0) (hcap : n ≤ cap) (t0 : 0 ≤ turn) (t1 : turn ≤ 65535) (x0 : -9223372036854775808 ≤ x) (x1 : x ≤ 9223372036854775807) :
    Calls Try.prog 6 #[.slice a n cap, .int .u16 turn, .int .i64 x] w fun e w' => e = .returned (.bool true) ∧ Below w.heap.size w w' := by
  have hB := Below.refl w.heap.size w
  have R0 := hR
  clear hR
  go_enter Try.func6, Try.ntmps6
  go_wp2_with fail
  refine (sane_any _).mono ?_; rintro e w1 ⟨rfl, hb⟩
  replace R0 := R0.below hb (Nat.le_refl _)
  replace hB := below_after hB hb hB.size
  clear hb
  by_cases hk : 300 < n
  · go_wp2
    go_ret
    exact ⟨rfl, hB⟩
  have hl := R0.len
  have mb1 := clip_lo (sumTo l n); have mb2 := clip_hi (sumTo l n)
  rw [show clip (sumTo l n) = mixOf l n from rfl] at mb1 mb2
  have HR := Lib.hid R0; have HB := Lib.hid hB; have HL := Lib.hid hl; have HNC := Lib.hid hnc
  clear R0 hB hl hnc
  go_wp2_with fail
  refine (mix_row _ b off _ _ l _ HR.out (by omega)).mono ?_; rintro e w' ⟨rfl, rfl⟩
  go_wp2_with fail
  go_loopw [8, 9] (fun v i wr => ∃ k : Nat, k ≤ n ∧ i = .int .i64 ((n : Int) - 1 - (k : Int)) ∧ Ints wr w1.heap.size v (l.reverse.take k) ∧ Below w1.heap.size w1 wr) (fun _ i _ => (intOf i + 1).toNat)
  case atStart => exact ⟨0, Nat.zero_le _, by go_num, Ints.nil _ _, Below.refl _ _⟩
  case round =>
    obtain ⟨k, hkn, rfl, hO, hBr⟩ := hrel
    by_cases hlt : k < n
    · obtain rfl := HR.out.adr (by omega)
      obtain ⟨j, hj⟩ : ∃ j : Nat, (n : Int) - 1 - (k : Int) = (j : Int) := ⟨n - 1 - k, by omega⟩
      have hjn : j < n := by omega
      have hcell := (HR.out.below hBr (Nat.le_refl _)).cel j hjn
      have hT := rev_take (l := l) (k := k) (by rw [HL.out]; exact hlt)
      rw [HL.out, show n - 1 - k = j by omega] at hT
      rw [hj]
      have hs := hBr.size
      generalize hx : l.getD j 0 = y at *
      have HX := Lib.hid (show _ ∧ _ ∧ _ from ⟨hx, hT, hBr⟩); clear hx hT hBr
      have HJ := Lib.hid hj; clear hj
      go_wp2_with (first | (at_builtin; refine wpList_append_int rfl _ _ rfl w1.heap.size _ _ rfl (hO.alloc _) _ _ rfl _ _ (heap_alloc_new _ _) (by rw [List.length_take, List.length_reverse, HL.out]; omega) (by simp; omega) ?_; intro v' w2 hO1 hB1 hgx; clear hgx))
      have HO1 := Lib.hid hO1; clear hO1
      go_roundw
      case rel => exact ⟨k + 1, by omega, by have := HJ.out; go_num, by rw [HX.out.2.1]; exact HO1.out, (HX.out.2.2.alloc hs _).trans hB1⟩
      case measure => first | (simp [intOf]; done) | (simp [intOf]; omega)
    · obtain rfl : k = n := by omega
      rw [List.take_of_length_le (by rw [List.length_reverse, HL.out]; exact Nat.le_refl _)] at hO
      obtain ⟨a2, b2, c2, rfl, R2, L2, M2⟩ := hO.row
      rw [List.length_reverse, HL.out] at R2 L2 ⊢
      have R0 := HR.out.below hBr (Nat.le_refl _)
      have hB := below_after HB.out hBr HB.out.size
      clear hO hBr
      have hi1 : (k : Int) - 1 - (k : Int) = -1 := by omega
      rw [hi1]
      have hmr : mixOf l.reverse k = mixOf l k := by rw [mix_tot _ k (by rw [List.length_reverse]; exact HL.out), mix_tot l k HL.out, tot_rev]
      have hlr : l.reverse.length = k := by rw [List.length_reverse]; exact HL.out
      have htr := tot_rev l
      generalize l.reverse = Lo at *
      by_cases hz : k = 0
      · subst hz
        go_wp2_with fail
        refine (mix_row _ _ _ _ _ Lo _ R2 (by omega)).mono ?_; rintro e w' ⟨rfl, rfl⟩
        rw [hmr]
        clear R2
        have HQ := Lib.hid hB; have HR0 := Lib.hid R0; clear hB R0
        go_upto_region 16 with fail
        go_cut [2] from 54 (fun v wx => (∃ X : Int, v = .int .i64 X ∧ -2147483647 ≤ X ∧ X ≤ 2147483647) ∧ wx = wr)
        case first =>
          go_wp2_with fail
          all_goals
            go_meet
            case rel => exact ⟨⟨_, rfl, by omega, by omega⟩, rfl⟩
        case rest =>
          obtain ⟨⟨X, rfl, hX1, hX2⟩, rfl⟩ := hcut
          go_wp2_with (first
            | (at_builtin; refine wpList_append_row rfl (.tmp 67) (.tmp 68) rfl wc.heap.size _ [_] rfl (Ints.lit1 wc _) _ b off _ _ l rfl (HR0.out.below ((Below.refl _ _).alloc (Nat.le_refl _) _) (Nat.le_refl _)) HNC.out (by simp <;> omega) (by simp) ?_; intro v7 w7 hO7 hB7 hgx; clear hgx; have hC7 := ((Below.refl wc.heap.size wc).alloc (Nat.le_refl _) _).trans hB7; have hs7 := hC7.size)
            | (at_builtin; refine wpList_append_int rfl (.tmp 69) (.tmp 71) rfl wc.heap.size _ _ rfl (hO7.alloc _) _ _ rfl _ _ (heap_alloc_new _ _) (by rw [List.length_append, HL.out, List.length_singleton]; omega) (by simp; omega) ?_; intro v8 w8 hO8 hB8 hgx; clear hgx; have hC8 := (hC7.alloc hs7 _).trans hB8; obtain ⟨a8, b8, c8, hv8, R8, -, -⟩ := hO8.row; rw [List.length_append, List.length_append, HL.out, List.length_singleton, List.length_singleton] at hv8 R8; subst hv8)
            | (go_at_call 17; refine (mix_row _ _ _ _ _ _ _ R8 (by omega)).mono ?_; rintro e w' ⟨rfl, rfl⟩; rw [mix_pair l _ _ 0 _ HL.out (by omega) ⟨by omega, by omega⟩ (by omega)]))
          have R0 := HR0.out.below hC8 (Nat.le_refl _)
          have HB9 := Lib.hid (below_after HQ.out hC8 HQ.out.size)
          have HR9 := Lib.hid R0
          clear R0 hC8 hC7 hs7 hO7 hB7 R8 hO8 hB8
          go_loopw [11] (fun i wj => ∃ j : Nat, 1 ≤ j ∧ i = .int .i64 j ∧ Below w8.heap.size w8 wj) (fun i _ => 0 - (intOf i).toNat)
          case atStart => exact ⟨1, Nat.le_refl _, by go_num, Below.refl _ _⟩
          case round =>
            obtain ⟨j, hj1, rfl, hBj⟩ := hrel
            by_cases hlt : j < 0
            · omega
            · go_wp2
              go_ret
              exact ⟨rfl, below_after HB9.out hBj HB9.out.size⟩
      · obtain ⟨r, hr⟩ := Int.eq_ofNat_of_zero_le (Int.emod_nonneg turn (show (k : Int) ≠ 0 by omega))
        have hrk : r < k := by have := Int.emod_lt_of_pos turn (show (0 : Int) < (k : Int) by omega); omega
        obtain rfl := R2.adr (by omega)
        have hA := R2.sub (i := r) (s := k - r) (by omega)
        have hB2 := R2.sub (i := 0) (s := r) (by omega)
        rw [Nat.zero_add] at hA
        rw [Nat.zero_add] at hB2
        have hmx : mixOf ([] ++ (Lo.drop r).take (k - r) ++ (Lo.drop 0).take r) k = mixOf l k := by
          rw [List.nil_append, List.take_of_length_le (by simp; omega), List.drop_zero]
          exact mix_rot l Lo k r hlr htr HL.out k rfl
        have hln : ([] ++ (Lo.drop r).take (k - r) ++ (Lo.drop 0).take r).length = k := by simp; omega
        have hbl := R2.old (by omega)
        have HX := Lib.hid (show _ ∧ _ ∧ _ ∧ _ ∧ _ from ⟨hA, hB2, hmx, hln, R0⟩); have HB3 := Lib.hid hB
        clear hA hB2 hmx hln R0 hB R2 htr hmr hlr
        go_wp2_with fail
        refine wp_region_from 1 3 (fun _ => True) (by kernel_rfl) (by kernel_rfl) (by decide) (by kernel_rfl) trivial ?_
        simp only [List.drop_succ_cons, List.drop_zero, List.take_succ_cons, List.take_zero]
        refine wpHeld_cons (.slice (some ⟨b2, 0, none⟩) k c2) (by kernel_rfl) ?_ ?_
        · rintro w' _
          try go_simp
        refine wpHeld_cons (.int .i64 (r : Int)) (by kernel_rfl) ?_ ?_
        · rintro w' _
          try go_simp
        refine wpHeld_cons (.slice (some ⟨b2, r, none⟩) (k - r) (c2 - r)) (by kernel_rfl) ?_ ?_
        · rintro w' _
          go_simp
          rw [if_pos (by omega), if_neg (by omega)]
        refine wpHeld_nil ?_
        go_simp
        refine wpAnyH_from 5 3 (fun _ _ _ _ _ h => h) (by kernel_rfl) (by decide) (by kernel_rfl) trivial ?_
        simp only [List.drop_succ_cons, List.drop_zero, List.take_succ_cons, List.take_zero]
        refine wpHeld_cons (.slice (some ⟨b2, 0, none⟩) k c2) (by kernel_rfl) ?_ ?_
        · rintro w' _
          try go_simp
        refine wpHeld_cons (.int .i64 (r : Int)) (by kernel_rfl) ?_ ?_
        · rintro w' _
          try go_simp
        refine wpHeld_cons (.slice (some ⟨b2, 0, none⟩) r c2) (by kernel_rfl) ?_ ?_
        · rintro w' _
          go_simp
          intro h; exfalso; omega
        refine wpHeld_nil ?_
        go_simp
        refine wpAnyH_one (i := 0) (by kernel_rfl) rfl (by kernel_rfl) (fun K' hK' => ?_)
        go_simp
        refine hK' _ _ trivial ?_
        clear hK' K'
        have hC0 : Below wr.heap.size wr (wr.alloc (.cells #[] 3)) := (Below.refl _ _).alloc (Nat.le_refl _) _
        refine wpAnyH_one (i := 4) (by kernel_rfl) rfl (by kernel_rfl) (fun K' hK' => ?_)
        refine wp_append_row (.tmp 41) (.tmp 44) rfl wr.heap.size _ [] rfl (Ints.empty wr) _ b2 r (k - r) _ _ rfl (HX.out.1.below hC0.drew (Nat.le_refl _)) (fun h => by cases h) (by simp; omega) (by show wr.heap.size ≤ (wr.alloc _).heap.size; simp) ?_
        intro v1 w3 hO3 hB3' hgx
        replace hB3' : Below wr.heap.size wr w3 := hC0.trans ((Below.refl _ _ |>.drew).trans hB3')
        clear hgx
        obtain ⟨av, nv, cv, rfl⟩ := hO3.isSlice
        refine hK' _ _ trivial ?_
        clear hK' K'
        refine wpAnyH_one (i := 8) (by kernel_rfl) rfl (by kernel_rfl) (fun K' hK' => ?_)
        refine wp_append_row (.tmp 45) (.tmp 48) rfl wr.heap.size _ _ rfl hO3 _ b2 0 r _ _ rfl (HX.out.2.1.below hB3' (Nat.le_refl _)) (fun h => by cases h) (by simp; omega) hB3'.size ?_
        intro v2 w4 hO4 hB4 hgx
        clear hgx
        have hB5 := hB3'.trans hB4
        obtain ⟨a6, b6, c6, hv6, R6, L6, M6⟩ := hO4.row
        rw [HX.out.2.2.2.1] at hv6 R6
        subst hv6
        refine hK' _ _ trivial ?_
        clear hK' K'
        refine wpAnyH_one (i := 9) (by kernel_rfl) rfl (by kernel_rfl) (fun K' hK' => ?_)
        go_simp
        refine hK' _ _ trivial ?_
        clear hK' K'
        refine wpAnyH_done (by kernel_rfl) ?_ _
        refine NoPanic.normal ?_
        have R0 := HX.out.2.2.2.2.below hB5 (Nat.le_refl _)
        have hB := below_after HB3.out hB5 HB3.out.size
        have hmx := HX.out.2.2.1
        generalize [] ++ (Lo.drop r).take (k - r) ++ (Lo.drop 0).take r = Lp at *
        clear hO3 hO4 hB3' hB4 hB5
        go_wp2_with fail
        refine (mix_row _ _ _ _ _ Lp _ R6 (by omega)).mono ?_; rintro e w' ⟨rfl, rfl⟩
        rw [hmx]
        clear R6
        have HQ := Lib.hid hB; have HR0 := Lib.hid R0; clear hB R0
        go_upto_region 16 with fail
        go_cut [2] from 54 (fun v wx => (∃ X : Int, v = .int .i64 X ∧ -2147483647 ≤ X ∧ X ≤ 2147483647) ∧ wx = w4)
        case first =>
          go_wp2_with fail
          all_goals
            go_meet
            case rel => exact ⟨⟨_, rfl, by omega, by omega⟩, rfl⟩
        case rest =>
          obtain ⟨⟨X, rfl, hX1, hX2⟩, rfl⟩ := hcut
          go_wp2_with (first
            | (at_builtin; refine wpList_append_row rfl (.tmp 67) (.tmp 68) rfl wc.heap.size _ [_] rfl (Ints.lit1 wc _) _ b off _ _ l rfl (HR0.out.below ((Below.refl _ _).alloc (Nat.le_refl _) _) (Nat.le_refl _)) HNC.out (by simp <;> omega) (by simp) ?_; intro v7 w7 hO7 hB7 hgx; clear hgx; have hC7 := ((Below.refl wc.heap.size wc).alloc (Nat.le_refl _) _).trans hB7; have hs7 := hC7.size)
            | (at_builtin; refine wpList_append_int rfl (.tmp 69) (.tmp 71) rfl wc.heap.size _ _ rfl (hO7.alloc _) _ _ rfl _ _ (heap_alloc_new _ _) (by rw [List.length_append, HL.out, List.length_singleton]; omega) (by simp; omega) ?_; intro v8 w8 hO8 hB8 hgx; clear hgx; have hC8 := (hC7.alloc hs7 _).trans hB8; obtain ⟨a8, b8, c8, hv8, R8, -, -⟩ := hO8.row; rw [List.length_append, List.length_append, HL.out, List.length_singleton, List.length_singleton] at hv8 R8; subst hv8)
            | (go_at_call 17; refine (mix_row _ _ _ _ _ _ _ R8 (by omega)).mono ?_; rintro e w' ⟨rfl, rfl⟩; rw [mix_pair l _ _ k _ HL.out (by omega) ⟨by omega, by omega⟩ (by omega)]))
          have R0 := HR0.out.below hC8 (Nat.le_refl _)
          have HB9 := Lib.hid (below_after HQ.out hC8 HQ.out.size)
          have HR9 := Lib.hid R0
          clear R0 hC8 hC7 hs7 hO7 hB7 R8 hO8 hB8
          go_loopw [11] (fun i wj => ∃ j : Nat, 1 ≤ j ∧ i = .int .i64 j ∧ Below w8.heap.size w8 wj) (fun i _ => k - (intOf i).toNat)
          case atStart => exact ⟨1, Nat.le_refl _, by go_num, Below.refl _ _⟩
          case round =>
            obtain ⟨j, hj1, rfl, hBj⟩ := hrel
            by_cases hlt : j < k
            · obtain ⟨q, rfl⟩ : ∃ q, j = q + 1 := ⟨j - 1, by omega⟩
              obtain rfl := HR9.out.adr (by omega)
              have R10 := HR9.out.below hBj (Nat.le_refl _)
              have c1 := R10.cel q (by omega)
              have c2 := R10.cel (q + 1) (by omega)
              have hS2 := R10.sub (i := q) (s := 2) (by omega)
              have hE := mix_two l q
              generalize hy1 : l.getD q 0 = y1 at *
              generalize hy2 : l.getD (q + 1) 0 = y2 at *
              have l1 := clip_lo y1; have l2 := clip_hi y1; have l3 := clip_lo y2; have l4 := clip_hi y2
              have HS2 := Lib.hid (show _ ∧ _ from ⟨hS2, hBj⟩); clear hS2 hBj R10 hy1 hy2
              have z1 : (0 : Int) ≤ (q : Int) := by omega
              have z2 : (q : Int) < (k : Int) := by omega
              have z3 : (q : Int) + 1 < (k : Int) := by omega
              have z4 : IntKind.i64.wrap (q : Int) = (q : Int) := by rw [IntKind.wrap_i64]; omega
              have z5 : IntKind.i64.wrap ((q : Int) + 1 + 1) = (q : Int) + 1 + 1 := by rw [IntKind.wrap_i64]; omega
              go_wp2_with fail
              refine wp_region_from 0 6 (fun w' => w'.cell? ⟨b, off + q, none⟩ = some (.int .i64 y1) ∧ w'.cell? ⟨b, off + (q + 1), none⟩ = some (.int .i64 y2)) (by kernel_rfl) (by kernel_rfl) (by decide) (by kernel_rfl) ⟨c1, c2⟩ ?_
              simp only [List.drop_zero, List.take_succ_cons, List.take_zero]
              refine wpHeld_cons (.slice (some ⟨b, off, none⟩) k cap) (by kernel_rfl) ?_ ?_
              · rintro w' ⟨s0, s1⟩
                try go_simp
              refine wpHeld_cons (.int .i64 ((q : Int) + 1)) (by kernel_rfl) ?_ ?_
              · rintro w' ⟨s0, s1⟩
                try go_simp
              refine wpHeld_cons (.int .i64 (q : Int)) (by kernel_rfl) ?_ ?_
              · rintro w' ⟨s0, s1⟩
                try go_simp
              refine wpHeld_cons (.int .i64 ((q : Int) + 1)) (by kernel_rfl) ?_ ?_
              · rintro w' ⟨s0, s1⟩
                try go_simp
              refine wpHeld_cons (.int .i64 ((q : Int) + 1 + 1)) (by kernel_rfl) ?_ ?_
              · rintro w' ⟨s0, s1⟩
                try go_simp
              refine wpHeld_cons (.slice (some ⟨b, off + q, none⟩) 2 (cap - q)) (by kernel_rfl) ?_ ?_
              · rintro w' ⟨s0, s1⟩
                go_simp
                rw [if_pos (by omega), if_pos (by omega), if_neg (by omega), show ((q : Int) + 1 + 1).toNat - q = 2 by omega]
              refine wpHeld_nil ?_
              go_simp
              refine wpAnyH_from 7 5 (fun _ _ _ _ _ h => h) (by kernel_rfl) (by decide) (by kernel_rfl) ⟨c1, c2⟩ ?_
              simp only [List.drop_succ_cons, List.drop_zero, List.take_succ_cons, List.take_zero]
              refine wpHeld_cons (.slice (some ⟨b, off, none⟩) k cap) (by kernel_rfl) ?_ ?_
              · rintro w' ⟨s0, s1⟩
                try go_simp
              refine wpHeld_cons (.int .i64 ((q : Int) + 1)) (by kernel_rfl) ?_ ?_
              · rintro w' ⟨s0, s1⟩
                try go_simp
              refine wpHeld_cons (.int .i64 (q : Int)) (by kernel_rfl) ?_ ?_
              · rintro w' ⟨s0, s1⟩
                try go_simp
              refine wpHeld_cons (.pointer (some ⟨b, off + q, none⟩)) (by kernel_rfl) ?_ ?_
              · rintro w' ⟨s0, s1⟩
                try go_simp
              refine wpHeld_cons (.int .i64 y1) (by kernel_rfl) ?_ ?_
              · rintro w' ⟨s0, s1⟩
                try go_simp
              refine wpHeld_nil ?_
              go_simp
              refine wpAnyH_from 13 4 (fun _ _ _ _ _ h => h) (by kernel_rfl) (by decide) (by kernel_rfl) ⟨c1, c2⟩ ?_
              simp only [List.drop_succ_cons, List.drop_zero, List.take_succ_cons, List.take_zero]
              refine wpHeld_cons (.slice (some ⟨b, off, none⟩) k cap) (by kernel_rfl) ?_ ?_
              · rintro w' ⟨s0, s1⟩
                try go_simp
              refine wpHeld_cons (.int .i64 ((q : Int) + 1)) (by kernel_rfl) ?_ ?_
              · rintro w' ⟨s0, s1⟩
                try go_simp
              refine wpHeld_cons (.pointer (some ⟨b, off + (q + 1), none⟩)) (by kernel_rfl) ?_ ?_
              · rintro w' ⟨s0, s1⟩
                go_simp
                intro h; exfalso; omega
              refine wpHeld_cons (.int .i64 y2) (by kernel_rfl) ?_ ?_
              · rintro w' ⟨s0, s1⟩
                try go_simp
              refine wpHeld_nil ?_
              go_simp
              refine wpAnyH_one (i := 6) (by kernel_rfl) rfl (by kernel_rfl) (fun K' hK' => ?_)
              go_simp
              refine (mix_row _ b (off + q) 2 _ _ _ (HS2.out.1.below ((Below.refl _ _).drew) (Nat.le_refl _)) (by omega)).mono ?_
              rintro e w' ⟨rfl, rfl⟩
              refine hK' _ _ ⟨c1, c2⟩ ?_
              clear hK' K'
              refine wpAnyH_one (i := 12) (by kernel_rfl) rfl (by kernel_rfl) (fun K' hK' => ?_)
              go_simp
              refine (clip_any _ _).mono ?_
              rintro e w' ⟨rfl, rfl⟩
              refine hK' _ _ ⟨c1, c2⟩ ?_
              clear hK' K'
              refine wpAnyH_one (i := 17) (by kernel_rfl) rfl (by kernel_rfl) (fun K' hK' => ?_)
              go_simp
              refine (clip_any _ _).mono ?_
              rintro e w' ⟨rfl, rfl⟩
              refine hK' _ _ ⟨c1, c2⟩ ?_
              clear hK' K'
              refine wpAnyH_one (i := 18) (by kernel_rfl) rfl (by kernel_rfl) (fun K' hK' => ?_)
              go_simp
              refine (add_any _ _ _ (by omega) (by omega) (by omega) (by omega)).mono ?_
              rintro e w' ⟨rfl, rfl⟩
              refine hK' _ _ ⟨c1, c2⟩ ?_
              clear hK' K'
              refine wpAnyH_one (i := 19) (by kernel_rfl) rfl (by kernel_rfl) (fun K' hK' => ?_)
              go_simp
              refine hK' _ _ ⟨c1, c2⟩ ?_
              clear hK' K'
              refine wpAnyH_done (by kernel_rfl) ?_ _
              refine NoPanic.normal ?_
              go_wp2
              go_roundw
              case rel => exact ⟨q + 1 + 1, by omega, by go_num, HS2.out.2.drew⟩
              case measure => simp [intOf]; omega
            · go_wp2
              go_ret
              exact ⟨rfl, below_after HB9.out hBj HB9.out.size⟩
end Go.Proofs.Ytcljkjachaecoaa
