/- The reference's list and Check of curves (layer 11). -/
import Derived.Test.YtmblkmllamccnaaCrvRef
import Derived.Test.YtmblkmllamccnaaSkip
import Derived.Test.YtmblkmllamccnaaCrvValue
namespace Go.Proofs.Ytmblkmllamccnaa
open Go.ChangeShapes Go.WideShapes Go.ChangeAt Go.RowKit Go.Shelf

set_option maxRecDepth 100000 in
set_option maxHeartbeats 8000000 in
theorem rlist_any (a : Option Addr) (b off n cap : Nat) (l : List Kt) (most : Int) (w : World) (h : Ks w a n b off l) (hn : n ≤ 9223372036854775807) :
    Calls Try.prog 40 #[.slice a n cap, .int .i64 most] w fun e w' => e = .returned (.bool (laneB most l)) ∧ Below w.heap.size w w' := by
  have hl := h.1
  have HK := Lib.hid h
  clear h
  go_enter Try.func40, Try.ntmps40
  go_wp2
  go_loopw [5] (fun i wr => ∃ k : Nat, k ≤ n ∧ k ≤ 1024 ∧ i = .int .i64 k ∧ okKs most l k ∧ Below w.heap.size w wr) (fun i _ => n - (intOf i).toNat)
  case atStart => exact ⟨0, Nat.zero_le _, by omega, rfl, fun i hi => by omega, Below.refl _ _⟩
  case round =>
    obtain ⟨k, hk, hk2, rfl, hok, hB⟩ := hrel
    by_cases hlt : k < n
    case neg =>
      obtain rfl : k = n := by omega
      have EB := Lib.hid (laneB_t (l := l) (most := most) ⟨by omega, by rw [hl]; exact hok⟩)
      clear hok
      go_wp2
      go_ret
      exact ⟨by rw [EB.out]; rfl, hB⟩
    obtain ⟨rfl, hbw⟩ := HK.out.2.1 (by omega)
    have i2 : (k : Int) < (n : Int) := by omega
    by_cases h24 : k = 1024
    · have EB := Lib.hid (laneB_f (l := l) (most := most) fun g => by have := g.1; omega)
      have z : decide ((1024 : Int) ≤ (k : Int)) = true := decide_eq_true (by omega)
      have z' : (1024 : Int) ≤ (k : Int) := by omega
      clear hok
      go_wp2
      go_quiet (fail)
      go_wp2
      go_ret
      exact ⟨by rw [EB.out]; rfl, below_drewN hB _⟩
    have z : ¬ (1024 : Int) ≤ (k : Int) := by omega
    obtain ⟨c0, c1, c2, c3, c4⟩ := (HK.out.grown hB).2.2 k hlt
    have uk : IntKind.i64.wrap ((k : Int) + 1) = (k : Int) + 1 := by rw [IntKind.wrap_i64]; omega
    have HO := Lib.hid (show _ ∧ _ from ⟨hok, hB⟩)
    clear hok hB
    have HC : ∀ w', Below wr.heap.size wr w' → w'.cell? ⟨b, off + k * 5, none⟩ = some (.int .i64 (nthK l k).1) ∧ w'.cell? ⟨b, off + k * 5 + 1, none⟩ = some (.int .i64 (nthK l k).2.1) ∧ w'.cell? ⟨b, off + k * 5 + 2, none⟩ = some (.int .i64 (nthK l k).2.2.1) ∧ w'.cell? ⟨b, off + k * 5 + 3, none⟩ = some (.int .i64 (nthK l k).2.2.2.1) ∧ w'.cell? ⟨b, off + k * 5 + 4, none⟩ = some (.int .i64 (nthK l k).2.2.2.2) := fun w' s =>
      (HK.out.grown (below_after HO.out.2 s HO.out.2.size)).2.2 k hlt
    clear c0 c1 c2 c3 c4
    by_cases hkn : okK most (nthK l k)
    case neg =>
      have EB := Lib.hid (laneB_f (l := l) (most := most) fun g => hkn (g.2 k (by omega)).1)
      have ek := okKB_f hkn
      have EK := Lib.hid ek
      clear hkn ek
      go_wp2_with fail
      refine wp_region_from 0 8 (fun w' => Below wr.heap.size wr w') (by kernel_rfl) (by kernel_rfl) (by decide) (by kernel_rfl) (Below.refl _ _).drew ?_
      simp only [List.drop_zero, List.take_succ_cons, List.take_zero]
      refine wpHeld_cons (.int .i64 k) (by kernel_rfl) ?_ ?_
      · intro w' s
        obtain ⟨x0, x1, x2, x3, x4⟩ := HC w' s
        try unfold encKv2
        try go_simp
        try (first | omega | (intro h; exfalso; omega))
      refine wpHeld_cons (.bool false) (by kernel_rfl) ?_ ?_
      · intro w' s
        obtain ⟨x0, x1, x2, x3, x4⟩ := HC w' s
        try unfold encKv2
        try go_simp
        try (first | omega | (intro h; exfalso; omega))
      refine wpHeld_cons (.bool false) (by kernel_rfl) ?_ ?_
      · intro w' s
        obtain ⟨x0, x1, x2, x3, x4⟩ := HC w' s
        try unfold encKv2
        try go_simp
        try (first | omega | (intro h; exfalso; omega))
      refine wpHeld_cons (.slice (some ⟨b, off, none⟩) n cap) (by kernel_rfl) ?_ ?_
      · intro w' s
        obtain ⟨x0, x1, x2, x3, x4⟩ := HC w' s
        try unfold encKv2
        try go_simp
        try (first | omega | (intro h; exfalso; omega))
      refine wpHeld_cons (.int .i64 k) (by kernel_rfl) ?_ ?_
      · intro w' s
        obtain ⟨x0, x1, x2, x3, x4⟩ := HC w' s
        try unfold encKv2
        try go_simp
        try (first | omega | (intro h; exfalso; omega))
      refine wpHeld_cons (.pointer (some ⟨b, off + k * 5, none⟩)) (by kernel_rfl) ?_ ?_
      · intro w' s
        obtain ⟨x0, x1, x2, x3, x4⟩ := HC w' s
        try unfold encKv2
        try go_simp
        try (first | omega | (intro h; exfalso; omega))
      refine wpHeld_cons (encKv2 (nthK l k)) (by kernel_rfl) ?_ ?_
      · intro w' s
        obtain ⟨x0, x1, x2, x3, x4⟩ := HC w' s
        try unfold encKv2
        try go_simp
        try (first | omega | (intro h; exfalso; omega))
      refine wpHeld_cons (.int .i64 most) (by kernel_rfl) ?_ ?_
      · intro w' s
        obtain ⟨x0, x1, x2, x3, x4⟩ := HC w' s
        try unfold encKv2
        try go_simp
        try (first | omega | (intro h; exfalso; omega))
      refine wpHeld_nil ?_
      go_simp
      refine wpAnyH_one (i := 8) (by kernel_rfl) rfl (by kernel_rfl) (fun K' hK' => ?_)
      go_simp
      refine (rknot_any (nthK l k) most _).mono ?_
      rintro e w1 ⟨rfl, hb⟩
      rw [EK.out]
      have s1 : Below wr.heap.size wr w1 := (Below.refl _ _).drew.trans hb
      refine hK' _ _ s1 ?_
      clear hK' K' hb
      refine wpAnyH_from 9 20 (fun _ _ _ _ _ h => h) (by kernel_rfl) (by decide) (by kernel_rfl) s1 ?_
      simp only [List.drop_succ_cons, List.drop_zero, List.take_succ_cons, List.take_zero]
      refine wpHeld_cons (.bool true) (by kernel_rfl) ?_ ?_
      · intro w' s
        obtain ⟨x0, x1, x2, x3, x4⟩ := HC w' s
        try go_simp
        try (first | omega | (intro h; exfalso; omega))
      refine wpHeld_cons (.bool true) (by kernel_rfl) ?_ ?_
      · intro w' s
        obtain ⟨x0, x1, x2, x3, x4⟩ := HC w' s
        try go_simp
        try (first | omega | (intro h; exfalso; omega))
      refine wpHeld_cons (.bool true) (by kernel_rfl) ?_ ?_
      · intro w' s
        obtain ⟨x0, x1, x2, x3, x4⟩ := HC w' s
        try go_simp
        try (first | omega | (intro h; exfalso; omega))
      refine wpHeld_skip (by kernel_rfl) ?_
      refine wpHeld_skip (by kernel_rfl) ?_
      refine wpHeld_skip (by kernel_rfl) ?_
      refine wpHeld_skip (by kernel_rfl) ?_
      refine wpHeld_skip (by kernel_rfl) ?_
      refine wpHeld_skip (by kernel_rfl) ?_
      refine wpHeld_skip (by kernel_rfl) ?_
      refine wpHeld_skip (by kernel_rfl) ?_
      refine wpHeld_skip (by kernel_rfl) ?_
      refine wpHeld_skip (by kernel_rfl) ?_
      refine wpHeld_skip (by kernel_rfl) ?_
      refine wpHeld_skip (by kernel_rfl) ?_
      refine wpHeld_skip (by kernel_rfl) ?_
      refine wpHeld_skip (by kernel_rfl) ?_
      refine wpHeld_skip (by kernel_rfl) ?_
      refine wpHeld_skip (by kernel_rfl) ?_
      refine wpHeld_cons (.bool true) (by kernel_rfl) ?_ ?_
      · intro w' s
        obtain ⟨x0, x1, x2, x3, x4⟩ := HC w' s
        try go_simp
        try (first | omega | (intro h; exfalso; omega))
      refine wpHeld_nil ?_
      go_simp
      refine wpAnyH_done (by kernel_rfl) ?_ _
      refine NoPanic.normal ?_
      have HB1 := Lib.hid (below_after HO.out.2 s1 HO.out.2.size)
      go_wp2
      go_ret
      exact ⟨by rw [EB.out]; rfl, HB1.out⟩
    have EK := Lib.hid (okKB_t hkn)
    by_cases hk0 : k = 0
    · subst hk0
      have hok1 := (okKs_succ most l 0).2 ⟨HO.out.1, hkn, fun h => absurd h (by omega)⟩
      have H1 := Lib.hid hok1
      simp only [Nat.zero_mul, Nat.add_zero] at HC
      clear hok1 hkn
      go_wp2_with fail
      refine wp_region_from 0 8 (fun w' => Below wr.heap.size wr w') (by kernel_rfl) (by kernel_rfl) (by decide) (by kernel_rfl) (Below.refl _ _).drew ?_
      simp only [List.drop_zero, List.take_succ_cons, List.take_zero]
      refine wpHeld_cons (.int .i64 0) (by kernel_rfl) ?_ ?_
      · intro w' s
        obtain ⟨x0, x1, x2, x3, x4⟩ := HC w' s
        try unfold encKv2
        try go_simp
        try (first | omega | (intro h; exfalso; omega))
      refine wpHeld_cons (.bool false) (by kernel_rfl) ?_ ?_
      · intro w' s
        obtain ⟨x0, x1, x2, x3, x4⟩ := HC w' s
        try unfold encKv2
        try go_simp
        try (first | omega | (intro h; exfalso; omega))
      refine wpHeld_cons (.bool false) (by kernel_rfl) ?_ ?_
      · intro w' s
        obtain ⟨x0, x1, x2, x3, x4⟩ := HC w' s
        try unfold encKv2
        try go_simp
        try (first | omega | (intro h; exfalso; omega))
      refine wpHeld_cons (.slice (some ⟨b, off, none⟩) n cap) (by kernel_rfl) ?_ ?_
      · intro w' s
        obtain ⟨x0, x1, x2, x3, x4⟩ := HC w' s
        try unfold encKv2
        try go_simp
        try (first | omega | (intro h; exfalso; omega))
      refine wpHeld_cons (.int .i64 0) (by kernel_rfl) ?_ ?_
      · intro w' s
        obtain ⟨x0, x1, x2, x3, x4⟩ := HC w' s
        try unfold encKv2
        try go_simp
        try (first | omega | (intro h; exfalso; omega))
      refine wpHeld_cons (.pointer (some ⟨b, off, none⟩)) (by kernel_rfl) ?_ ?_
      · intro w' s
        obtain ⟨x0, x1, x2, x3, x4⟩ := HC w' s
        try unfold encKv2
        try go_simp
        try (first | omega | (intro h; exfalso; omega))
      refine wpHeld_cons (encKv2 (nthK l 0)) (by kernel_rfl) ?_ ?_
      · intro w' s
        obtain ⟨x0, x1, x2, x3, x4⟩ := HC w' s
        try unfold encKv2
        try go_simp
        try (first | omega | (intro h; exfalso; omega))
      refine wpHeld_cons (.int .i64 most) (by kernel_rfl) ?_ ?_
      · intro w' s
        obtain ⟨x0, x1, x2, x3, x4⟩ := HC w' s
        try unfold encKv2
        try go_simp
        try (first | omega | (intro h; exfalso; omega))
      refine wpHeld_nil ?_
      go_simp
      refine wpAnyH_one (i := 8) (by kernel_rfl) rfl (by kernel_rfl) (fun K' hK' => ?_)
      go_simp
      refine (rknot_any (nthK l 0) most _).mono ?_
      rintro e w1 ⟨rfl, hb⟩
      rw [EK.out]
      have s1 : Below wr.heap.size wr w1 := (Below.refl _ _).drew.trans hb
      refine hK' _ _ s1 ?_
      clear hK' K' hb
      refine wpAnyH_from 9 20 (fun _ _ _ _ _ h => h) (by kernel_rfl) (by decide) (by kernel_rfl) s1 ?_
      simp only [List.drop_succ_cons, List.drop_zero, List.take_succ_cons, List.take_zero]
      refine wpHeld_cons (.bool false) (by kernel_rfl) ?_ ?_
      · intro w' s
        obtain ⟨x0, x1, x2, x3, x4⟩ := HC w' s
        try go_simp
        try (first | omega | (intro h; exfalso; omega))
      refine wpHeld_cons (.bool false) (by kernel_rfl) ?_ ?_
      · intro w' s
        obtain ⟨x0, x1, x2, x3, x4⟩ := HC w' s
        try go_simp
        try (first | omega | (intro h; exfalso; omega))
      refine wpHeld_cons (.bool false) (by kernel_rfl) ?_ ?_
      · intro w' s
        obtain ⟨x0, x1, x2, x3, x4⟩ := HC w' s
        try go_simp
        try (first | omega | (intro h; exfalso; omega))
      refine wpHeld_cons (.int .i64 0) (by kernel_rfl) ?_ ?_
      · intro w' s
        obtain ⟨x0, x1, x2, x3, x4⟩ := HC w' s
        try go_simp
        try (first | omega | (intro h; exfalso; omega))
      refine wpHeld_cons (.bool false) (by kernel_rfl) ?_ ?_
      · intro w' s
        obtain ⟨x0, x1, x2, x3, x4⟩ := HC w' s
        try go_simp
        try (first | omega | (intro h; exfalso; omega))
      refine wpHeld_cons (.bool false) (by kernel_rfl) ?_ ?_
      · intro w' s
        obtain ⟨x0, x1, x2, x3, x4⟩ := HC w' s
        try go_simp
        try (first | omega | (intro h; exfalso; omega))
      refine wpHeld_skip (by kernel_rfl) ?_
      refine wpHeld_skip (by kernel_rfl) ?_
      refine wpHeld_skip (by kernel_rfl) ?_
      refine wpHeld_skip (by kernel_rfl) ?_
      refine wpHeld_skip (by kernel_rfl) ?_
      refine wpHeld_skip (by kernel_rfl) ?_
      refine wpHeld_skip (by kernel_rfl) ?_
      refine wpHeld_skip (by kernel_rfl) ?_
      refine wpHeld_skip (by kernel_rfl) ?_
      refine wpHeld_skip (by kernel_rfl) ?_
      refine wpHeld_skip (by kernel_rfl) ?_
      refine wpHeld_skip (by kernel_rfl) ?_
      refine wpHeld_cons (.bool false) (by kernel_rfl) ?_ ?_
      · intro w' s
        obtain ⟨x0, x1, x2, x3, x4⟩ := HC w' s
        try go_simp
        try (first | omega | (intro h; exfalso; omega))
      refine wpHeld_cons (.bool false) (by kernel_rfl) ?_ ?_
      · intro w' s
        obtain ⟨x0, x1, x2, x3, x4⟩ := HC w' s
        try go_simp
        try (first | omega | (intro h; exfalso; omega))
      refine wpHeld_nil ?_
      go_simp
      refine wpAnyH_done (by kernel_rfl) ?_ _
      refine NoPanic.normal ?_
      have HB1 := Lib.hid (below_after HO.out.2 s1 HO.out.2.size)
      go_wp2
      go_roundw
      case rel => exact ⟨1, by omega, by omega, by go_num, H1.out, HB1.out⟩
      case measure => simp [intOf] <;> omega
    · obtain ⟨j, rfl⟩ : ∃ j, k = j + 1 := ⟨k - 1, by omega⟩
      have ej : IntKind.i64.wrap (((j + 1 : Nat) : Int) - 1) = (j : Int) := by rw [IntKind.wrap_i64]; omega
      have ej2 : IntKind.i64.wrap (j : Int) = (j : Int) := by rw [IntKind.wrap_i64]; omega
      have i3 : (j : Int) < (n : Int) := by omega
      have i4 : j < n := by omega
      have i5 : (0 : Int) < (j : Int) + 1 := by omega
      have i6 : (j : Int) + 1 < (n : Int) := by omega
      have i7 : ¬ (1024 : Int) ≤ (j : Int) + 1 := by omega
      have HD : ∀ w', Below wr.heap.size wr w' → w'.cell? ⟨b, off + j * 5, none⟩ = some (.int .i64 (nthK l j).1) := fun w' s =>
        ((HK.out.grown (below_after HO.out.2 s HO.out.2.size)).2.2 j i4).1
      by_cases q9 : (nthK l j).1 < (nthK l (j + 1)).1
      · have d9 : decide ((nthK l (j + 1)).1 ≤ (nthK l j).1) = false := decide_eq_false (by omega)
        have hok1 := (okKs_succ most l (j + 1)).2 ⟨HO.out.1, hkn, fun _ => by rw [Nat.add_sub_cancel]; exact q9⟩
        have H1 := Lib.hid hok1
        clear hok1 hkn
        go_wp2_with fail
        refine wp_region_from 0 8 (fun w' => Below wr.heap.size wr w') (by kernel_rfl) (by kernel_rfl) (by decide) (by kernel_rfl) (Below.refl _ _).drew ?_
        simp only [List.drop_zero, List.take_succ_cons, List.take_zero]
        refine wpHeld_cons (.int .i64 ((j : Int) + 1)) (by kernel_rfl) ?_ ?_
        · intro w' s
          obtain ⟨x0, x1, x2, x3, x4⟩ := HC w' s
          try unfold encKv2
          try go_simp
          try (first | omega | (intro h; exfalso; omega))
        refine wpHeld_cons (.bool false) (by kernel_rfl) ?_ ?_
        · intro w' s
          obtain ⟨x0, x1, x2, x3, x4⟩ := HC w' s
          try unfold encKv2
          try go_simp
          try (first | omega | (intro h; exfalso; omega))
        refine wpHeld_cons (.bool false) (by kernel_rfl) ?_ ?_
        · intro w' s
          obtain ⟨x0, x1, x2, x3, x4⟩ := HC w' s
          try unfold encKv2
          try go_simp
          try (first | omega | (intro h; exfalso; omega))
        refine wpHeld_cons (.slice (some ⟨b, off, none⟩) n cap) (by kernel_rfl) ?_ ?_
        · intro w' s
          obtain ⟨x0, x1, x2, x3, x4⟩ := HC w' s
          try unfold encKv2
          try go_simp
          try (first | omega | (intro h; exfalso; omega))
        refine wpHeld_cons (.int .i64 ((j : Int) + 1)) (by kernel_rfl) ?_ ?_
        · intro w' s
          obtain ⟨x0, x1, x2, x3, x4⟩ := HC w' s
          try unfold encKv2
          try go_simp
          try (first | omega | (intro h; exfalso; omega))
        refine wpHeld_cons (.pointer (some ⟨b, off + (j + 1) * 5, none⟩)) (by kernel_rfl) ?_ ?_
        · intro w' s
          obtain ⟨x0, x1, x2, x3, x4⟩ := HC w' s
          try unfold encKv2
          try go_simp
          try (first | omega | (intro h; exfalso; omega))
        refine wpHeld_cons (encKv2 (nthK l (j + 1))) (by kernel_rfl) ?_ ?_
        · intro w' s
          obtain ⟨x0, x1, x2, x3, x4⟩ := HC w' s
          try unfold encKv2
          try go_simp
          try (first | omega | (intro h; exfalso; omega))
        refine wpHeld_cons (.int .i64 most) (by kernel_rfl) ?_ ?_
        · intro w' s
          obtain ⟨x0, x1, x2, x3, x4⟩ := HC w' s
          try unfold encKv2
          try go_simp
          try (first | omega | (intro h; exfalso; omega))
        refine wpHeld_nil ?_
        go_simp
        refine wpAnyH_one (i := 8) (by kernel_rfl) rfl (by kernel_rfl) (fun K' hK' => ?_)
        go_simp
        refine (rknot_any (nthK l (j + 1)) most _).mono ?_
        rintro e w1 ⟨rfl, hb⟩
        rw [EK.out]
        have s1 : Below wr.heap.size wr w1 := (Below.refl _ _).drew.trans hb
        refine hK' _ _ s1 ?_
        clear hK' K' hb
        refine wpAnyH_from 9 20 (fun _ _ _ _ _ h => h) (by kernel_rfl) (by decide) (by kernel_rfl) s1 ?_
        simp only [List.drop_succ_cons, List.drop_zero, List.take_succ_cons, List.take_zero]
        refine wpHeld_cons (.bool false) (by kernel_rfl) ?_ ?_
        · intro w' s
          obtain ⟨x0, x1, x2, x3, x4⟩ := HC w' s
          have y0 := HD w' s
          try go_simp
          try (first | omega | (intro h; exfalso; omega))
        refine wpHeld_cons (.bool false) (by kernel_rfl) ?_ ?_
        · intro w' s
          obtain ⟨x0, x1, x2, x3, x4⟩ := HC w' s
          have y0 := HD w' s
          try go_simp
          try (first | omega | (intro h; exfalso; omega))
        refine wpHeld_cons (.bool false) (by kernel_rfl) ?_ ?_
        · intro w' s
          obtain ⟨x0, x1, x2, x3, x4⟩ := HC w' s
          have y0 := HD w' s
          try go_simp
          try (first | omega | (intro h; exfalso; omega))
        refine wpHeld_cons (.int .i64 ((j : Int) + 1)) (by kernel_rfl) ?_ ?_
        · intro w' s
          obtain ⟨x0, x1, x2, x3, x4⟩ := HC w' s
          have y0 := HD w' s
          try go_simp
          try (first | omega | (intro h; exfalso; omega))
        refine wpHeld_cons (.bool true) (by kernel_rfl) ?_ ?_
        · intro w' s
          obtain ⟨x0, x1, x2, x3, x4⟩ := HC w' s
          have y0 := HD w' s
          try go_simp
          try (first | omega | (intro h; exfalso; omega))
        refine wpHeld_cons (.bool true) (by kernel_rfl) ?_ ?_
        · intro w' s
          obtain ⟨x0, x1, x2, x3, x4⟩ := HC w' s
          have y0 := HD w' s
          try go_simp
          try (first | omega | (intro h; exfalso; omega))
        refine wpHeld_cons (.slice (some ⟨b, off, none⟩) n cap) (by kernel_rfl) ?_ ?_
        · intro w' s
          obtain ⟨x0, x1, x2, x3, x4⟩ := HC w' s
          have y0 := HD w' s
          try go_simp
          try (first | omega | (intro h; exfalso; omega))
        refine wpHeld_cons (.int .i64 ((j : Int) + 1)) (by kernel_rfl) ?_ ?_
        · intro w' s
          obtain ⟨x0, x1, x2, x3, x4⟩ := HC w' s
          have y0 := HD w' s
          try go_simp
          try (first | omega | (intro h; exfalso; omega))
        refine wpHeld_cons (.int .i64 (j : Int)) (by kernel_rfl) ?_ ?_
        · intro w' s
          obtain ⟨x0, x1, x2, x3, x4⟩ := HC w' s
          have y0 := HD w' s
          try go_simp
          try (first | omega | (intro h; exfalso; omega))
        refine wpHeld_cons (.pointer (some ⟨b, off + j * 5, none⟩)) (by kernel_rfl) ?_ ?_
        · intro w' s
          obtain ⟨x0, x1, x2, x3, x4⟩ := HC w' s
          have y0 := HD w' s
          try go_simp
          try (first | omega | (intro h; exfalso; omega))
        refine wpHeld_cons (.pointer (some ⟨b, off + j * 5, none⟩)) (by kernel_rfl) ?_ ?_
        · intro w' s
          obtain ⟨x0, x1, x2, x3, x4⟩ := HC w' s
          have y0 := HD w' s
          try go_simp
          try (first | omega | (intro h; exfalso; omega))
        refine wpHeld_cons (.int .i64 (nthK l j).1) (by kernel_rfl) ?_ ?_
        · intro w' s
          obtain ⟨x0, x1, x2, x3, x4⟩ := HC w' s
          have y0 := HD w' s
          try go_simp
          try (first | omega | (intro h; exfalso; omega))
        refine wpHeld_cons (.slice (some ⟨b, off, none⟩) n cap) (by kernel_rfl) ?_ ?_
        · intro w' s
          obtain ⟨x0, x1, x2, x3, x4⟩ := HC w' s
          have y0 := HD w' s
          try go_simp
          try (first | omega | (intro h; exfalso; omega))
        refine wpHeld_cons (.int .i64 ((j : Int) + 1)) (by kernel_rfl) ?_ ?_
        · intro w' s
          obtain ⟨x0, x1, x2, x3, x4⟩ := HC w' s
          have y0 := HD w' s
          try go_simp
          try (first | omega | (intro h; exfalso; omega))
        refine wpHeld_cons (.pointer (some ⟨b, off + (j + 1) * 5, none⟩)) (by kernel_rfl) ?_ ?_
        · intro w' s
          obtain ⟨x0, x1, x2, x3, x4⟩ := HC w' s
          have y0 := HD w' s
          try go_simp
          try (first | omega | (intro h; exfalso; omega))
        refine wpHeld_cons (.pointer (some ⟨b, off + (j + 1) * 5, none⟩)) (by kernel_rfl) ?_ ?_
        · intro w' s
          obtain ⟨x0, x1, x2, x3, x4⟩ := HC w' s
          have y0 := HD w' s
          try go_simp
          try (first | omega | (intro h; exfalso; omega))
        refine wpHeld_cons (.int .i64 (nthK l (j + 1)).1) (by kernel_rfl) ?_ ?_
        · intro w' s
          obtain ⟨x0, x1, x2, x3, x4⟩ := HC w' s
          have y0 := HD w' s
          try go_simp
          try (first | omega | (intro h; exfalso; omega))
        refine wpHeld_cons (.bool false) (by kernel_rfl) ?_ ?_
        · intro w' s
          obtain ⟨x0, x1, x2, x3, x4⟩ := HC w' s
          have y0 := HD w' s
          try go_simp
          try (first | omega | (intro h; exfalso; omega))
        refine wpHeld_cons (.bool false) (by kernel_rfl) ?_ ?_
        · intro w' s
          obtain ⟨x0, x1, x2, x3, x4⟩ := HC w' s
          have y0 := HD w' s
          try go_simp
          try (first | omega | (intro h; exfalso; omega))
        refine wpHeld_cons (.bool false) (by kernel_rfl) ?_ ?_
        · intro w' s
          obtain ⟨x0, x1, x2, x3, x4⟩ := HC w' s
          have y0 := HD w' s
          try go_simp
          try (first | omega | (intro h; exfalso; omega))
        refine wpHeld_nil ?_
        go_simp
        refine wpAnyH_done (by kernel_rfl) ?_ _
        refine NoPanic.normal ?_
        have HB1 := Lib.hid (below_after HO.out.2 s1 HO.out.2.size)
        go_wp2
        go_roundw
        case rel => exact ⟨j + 1 + 1, by omega, by omega, by go_num, H1.out, HB1.out⟩
        case measure => simp [intOf] <;> omega
      · have d9 : decide ((nthK l (j + 1)).1 ≤ (nthK l j).1) = true := decide_eq_true (by omega)
        have EB := Lib.hid (laneB_f (l := l) (most := most) fun g => q9 (by have := (g.2 (j + 1) (by omega)).2 (by omega); rwa [Nat.add_sub_cancel] at this))
        have q10 : (nthK l (j + 1)).1 ≤ (nthK l j).1 := by omega
        clear hkn
        go_wp2_with fail
        refine wp_region_from 0 8 (fun w' => Below wr.heap.size wr w') (by kernel_rfl) (by kernel_rfl) (by decide) (by kernel_rfl) (Below.refl _ _).drew ?_
        simp only [List.drop_zero, List.take_succ_cons, List.take_zero]
        refine wpHeld_cons (.int .i64 ((j : Int) + 1)) (by kernel_rfl) ?_ ?_
        · intro w' s
          obtain ⟨x0, x1, x2, x3, x4⟩ := HC w' s
          try unfold encKv2
          try go_simp
          try (first | omega | (intro h; exfalso; omega))
        refine wpHeld_cons (.bool false) (by kernel_rfl) ?_ ?_
        · intro w' s
          obtain ⟨x0, x1, x2, x3, x4⟩ := HC w' s
          try unfold encKv2
          try go_simp
          try (first | omega | (intro h; exfalso; omega))
        refine wpHeld_cons (.bool false) (by kernel_rfl) ?_ ?_
        · intro w' s
          obtain ⟨x0, x1, x2, x3, x4⟩ := HC w' s
          try unfold encKv2
          try go_simp
          try (first | omega | (intro h; exfalso; omega))
        refine wpHeld_cons (.slice (some ⟨b, off, none⟩) n cap) (by kernel_rfl) ?_ ?_
        · intro w' s
          obtain ⟨x0, x1, x2, x3, x4⟩ := HC w' s
          try unfold encKv2
          try go_simp
          try (first | omega | (intro h; exfalso; omega))
        refine wpHeld_cons (.int .i64 ((j : Int) + 1)) (by kernel_rfl) ?_ ?_
        · intro w' s
          obtain ⟨x0, x1, x2, x3, x4⟩ := HC w' s
          try unfold encKv2
          try go_simp
          try (first | omega | (intro h; exfalso; omega))
        refine wpHeld_cons (.pointer (some ⟨b, off + (j + 1) * 5, none⟩)) (by kernel_rfl) ?_ ?_
        · intro w' s
          obtain ⟨x0, x1, x2, x3, x4⟩ := HC w' s
          try unfold encKv2
          try go_simp
          try (first | omega | (intro h; exfalso; omega))
        refine wpHeld_cons (encKv2 (nthK l (j + 1))) (by kernel_rfl) ?_ ?_
        · intro w' s
          obtain ⟨x0, x1, x2, x3, x4⟩ := HC w' s
          try unfold encKv2
          try go_simp
          try (first | omega | (intro h; exfalso; omega))
        refine wpHeld_cons (.int .i64 most) (by kernel_rfl) ?_ ?_
        · intro w' s
          obtain ⟨x0, x1, x2, x3, x4⟩ := HC w' s
          try unfold encKv2
          try go_simp
          try (first | omega | (intro h; exfalso; omega))
        refine wpHeld_nil ?_
        go_simp
        refine wpAnyH_one (i := 8) (by kernel_rfl) rfl (by kernel_rfl) (fun K' hK' => ?_)
        go_simp
        refine (rknot_any (nthK l (j + 1)) most _).mono ?_
        rintro e w1 ⟨rfl, hb⟩
        rw [EK.out]
        have s1 : Below wr.heap.size wr w1 := (Below.refl _ _).drew.trans hb
        refine hK' _ _ s1 ?_
        clear hK' K' hb
        refine wpAnyH_from 9 20 (fun _ _ _ _ _ h => h) (by kernel_rfl) (by decide) (by kernel_rfl) s1 ?_
        simp only [List.drop_succ_cons, List.drop_zero, List.take_succ_cons, List.take_zero]
        refine wpHeld_cons (.bool false) (by kernel_rfl) ?_ ?_
        · intro w' s
          obtain ⟨x0, x1, x2, x3, x4⟩ := HC w' s
          have y0 := HD w' s
          try go_simp
          try (first | omega | (intro h; exfalso; omega))
        refine wpHeld_cons (.bool false) (by kernel_rfl) ?_ ?_
        · intro w' s
          obtain ⟨x0, x1, x2, x3, x4⟩ := HC w' s
          have y0 := HD w' s
          try go_simp
          try (first | omega | (intro h; exfalso; omega))
        refine wpHeld_cons (.bool false) (by kernel_rfl) ?_ ?_
        · intro w' s
          obtain ⟨x0, x1, x2, x3, x4⟩ := HC w' s
          have y0 := HD w' s
          try go_simp
          try (first | omega | (intro h; exfalso; omega))
        refine wpHeld_cons (.int .i64 ((j : Int) + 1)) (by kernel_rfl) ?_ ?_
        · intro w' s
          obtain ⟨x0, x1, x2, x3, x4⟩ := HC w' s
          have y0 := HD w' s
          try go_simp
          try (first | omega | (intro h; exfalso; omega))
        refine wpHeld_cons (.bool true) (by kernel_rfl) ?_ ?_
        · intro w' s
          obtain ⟨x0, x1, x2, x3, x4⟩ := HC w' s
          have y0 := HD w' s
          try go_simp
          try (first | omega | (intro h; exfalso; omega))
        refine wpHeld_cons (.bool true) (by kernel_rfl) ?_ ?_
        · intro w' s
          obtain ⟨x0, x1, x2, x3, x4⟩ := HC w' s
          have y0 := HD w' s
          try go_simp
          try (first | omega | (intro h; exfalso; omega))
        refine wpHeld_cons (.slice (some ⟨b, off, none⟩) n cap) (by kernel_rfl) ?_ ?_
        · intro w' s
          obtain ⟨x0, x1, x2, x3, x4⟩ := HC w' s
          have y0 := HD w' s
          try go_simp
          try (first | omega | (intro h; exfalso; omega))
        refine wpHeld_cons (.int .i64 ((j : Int) + 1)) (by kernel_rfl) ?_ ?_
        · intro w' s
          obtain ⟨x0, x1, x2, x3, x4⟩ := HC w' s
          have y0 := HD w' s
          try go_simp
          try (first | omega | (intro h; exfalso; omega))
        refine wpHeld_cons (.int .i64 (j : Int)) (by kernel_rfl) ?_ ?_
        · intro w' s
          obtain ⟨x0, x1, x2, x3, x4⟩ := HC w' s
          have y0 := HD w' s
          try go_simp
          try (first | omega | (intro h; exfalso; omega))
        refine wpHeld_cons (.pointer (some ⟨b, off + j * 5, none⟩)) (by kernel_rfl) ?_ ?_
        · intro w' s
          obtain ⟨x0, x1, x2, x3, x4⟩ := HC w' s
          have y0 := HD w' s
          try go_simp
          try (first | omega | (intro h; exfalso; omega))
        refine wpHeld_cons (.pointer (some ⟨b, off + j * 5, none⟩)) (by kernel_rfl) ?_ ?_
        · intro w' s
          obtain ⟨x0, x1, x2, x3, x4⟩ := HC w' s
          have y0 := HD w' s
          try go_simp
          try (first | omega | (intro h; exfalso; omega))
        refine wpHeld_cons (.int .i64 (nthK l j).1) (by kernel_rfl) ?_ ?_
        · intro w' s
          obtain ⟨x0, x1, x2, x3, x4⟩ := HC w' s
          have y0 := HD w' s
          try go_simp
          try (first | omega | (intro h; exfalso; omega))
        refine wpHeld_cons (.slice (some ⟨b, off, none⟩) n cap) (by kernel_rfl) ?_ ?_
        · intro w' s
          obtain ⟨x0, x1, x2, x3, x4⟩ := HC w' s
          have y0 := HD w' s
          try go_simp
          try (first | omega | (intro h; exfalso; omega))
        refine wpHeld_cons (.int .i64 ((j : Int) + 1)) (by kernel_rfl) ?_ ?_
        · intro w' s
          obtain ⟨x0, x1, x2, x3, x4⟩ := HC w' s
          have y0 := HD w' s
          try go_simp
          try (first | omega | (intro h; exfalso; omega))
        refine wpHeld_cons (.pointer (some ⟨b, off + (j + 1) * 5, none⟩)) (by kernel_rfl) ?_ ?_
        · intro w' s
          obtain ⟨x0, x1, x2, x3, x4⟩ := HC w' s
          have y0 := HD w' s
          try go_simp
          try (first | omega | (intro h; exfalso; omega))
        refine wpHeld_cons (.pointer (some ⟨b, off + (j + 1) * 5, none⟩)) (by kernel_rfl) ?_ ?_
        · intro w' s
          obtain ⟨x0, x1, x2, x3, x4⟩ := HC w' s
          have y0 := HD w' s
          try go_simp
          try (first | omega | (intro h; exfalso; omega))
        refine wpHeld_cons (.int .i64 (nthK l (j + 1)).1) (by kernel_rfl) ?_ ?_
        · intro w' s
          obtain ⟨x0, x1, x2, x3, x4⟩ := HC w' s
          have y0 := HD w' s
          try go_simp
          try (first | omega | (intro h; exfalso; omega))
        refine wpHeld_cons (.bool true) (by kernel_rfl) ?_ ?_
        · intro w' s
          obtain ⟨x0, x1, x2, x3, x4⟩ := HC w' s
          have y0 := HD w' s
          try go_simp
          try (first | omega | (intro h; exfalso; omega))
        refine wpHeld_cons (.bool true) (by kernel_rfl) ?_ ?_
        · intro w' s
          obtain ⟨x0, x1, x2, x3, x4⟩ := HC w' s
          have y0 := HD w' s
          try go_simp
          try (first | omega | (intro h; exfalso; omega))
        refine wpHeld_cons (.bool true) (by kernel_rfl) ?_ ?_
        · intro w' s
          obtain ⟨x0, x1, x2, x3, x4⟩ := HC w' s
          have y0 := HD w' s
          try go_simp
          try (first | omega | (intro h; exfalso; omega))
        refine wpHeld_nil ?_
        go_simp
        refine wpAnyH_done (by kernel_rfl) ?_ _
        refine NoPanic.normal ?_
        have HB1 := Lib.hid (below_after HO.out.2 s1 HO.out.2.size)
        go_wp2
        go_ret
        exact ⟨by rw [EB.out]; rfl, HB1.out⟩
end Go.Proofs.Ytmblkmllamccnaa
