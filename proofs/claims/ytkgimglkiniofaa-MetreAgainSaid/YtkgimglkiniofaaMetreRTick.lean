/- The reference's Tick (layer 10). -/
import Derived.Test.YtkgimglkiniofaaMetreBegM
import Derived.Test.YtkgimglkiniofaaHeld
namespace Go.Proofs.Ytkgimglkiniofaa
open Go.ChangeShapes Go.WideShapes Go.ChangeAt Go.RowKit

theorem tick_out {l : List Mt} {bar beat rest t r : Int} (hc : Changes l) (hb : ¬ (0 ≤ bar ∧ bar ≤ 1048576)) (hr : TickRes l bar beat rest t r) : t = 0 ∧ r = 1 := by
  rcases hr with ⟨h, _⟩ | ⟨_, t0, r0, hT, ht, hr⟩
  · exact absurd hc h
  · have key : t0 = 0 ∧ r0 = 1 := by
      rcases hT with ⟨k, hk, hj, hlt, hf⟩ | ⟨_, h1, h2⟩
      · have en := endOf_bd hc hk
        have m0 := (hc.2.2.2 k hk).1.1
        rcases hf with ⟨_, h1, h2⟩ | ⟨h, _⟩ | ⟨_, _, h1, h2⟩
        · exact ⟨h1, h2⟩
        · omega
        · exact ⟨h1, h2⟩
      · exact ⟨h1, h2⟩
    obtain ⟨rfl, rfl⟩ := key
    rw [if_neg (by omega)] at ht hr
    exact ⟨ht, hr⟩
theorem tick_bad {l : List Mt} {bar beat rest t r : Int} (hc : ¬ Changes l) (hr : TickRes l bar beat rest t r) : t = 0 ∧ r = 100 := by
  rcases hr with ⟨_, h⟩ | ⟨h, _⟩
  · exact h
  · exact absurd h hc

set_option maxHeartbeats 4000000 in
theorem rtick_any (a : Option Addr) (b off len cap : Nat) (l : List Mt) (bar beat rest t r : Int) (w : World) (hM : Ms w a len b off l) (hn : len ≤ 9223372036854775807) (hT : TickRes l bar beat rest t r) :
    Calls Try.prog 12 #[.slice a len cap, .int .i64 bar, .int .i64 beat, .int .i64 rest] w fun e w' => e = .returned (.tuple #[.int .i64 t, .int .i64 r]) ∧ Below w.heap.size w w' := by
  have HM := Lib.hid hM; clear hM
  by_cases hch : Changes l
  case neg =>
    obtain ⟨rfl, rfl⟩ := tick_bad hch hT
    clear hT
    have e := chk_no hch
    clear hch
    go_enter Try.func12, Try.ntmps12
    go_wp2_with fail
    refine (rmcheck_any a len cap b off l _ HM.out hn).mono ?_; rintro e w2 ⟨rfl, hB⟩; rw [e]
    go_wp2
    go_ret2
    exact ⟨rfl, hB⟩
  by_cases hb0 : 0 ≤ bar
  case neg =>
    obtain ⟨rfl, rfl⟩ := tick_out hch (by omega) hT
    clear hT
    have E0 := Lib.hid (chk_yes hch)
    have g0 : bar < 0 := by omega
    clear hch
    go_enter Try.func12, Try.ntmps12
    go_wp2_with fail
    refine (rmcheck_any a len cap b off l _ HM.out hn).mono ?_; rintro e w2 ⟨rfl, hB⟩; rw [E0.out]
    go_wp2
    go_ret2
    exact ⟨rfl, hB⟩
  by_cases hb1 : bar ≤ 1048576
  case neg =>
    obtain ⟨rfl, rfl⟩ := tick_out hch (by omega) hT
    clear hT
    have E0 := Lib.hid (chk_yes hch)
    have g0 : ¬ bar < 0 := by omega
    have g1 : 1048576 < bar := by omega
    clear hch
    go_enter Try.func12, Try.ntmps12
    go_wp2_with fail
    refine (rmcheck_any a len cap b off l _ HM.out hn).mono ?_; rintro e w2 ⟨rfl, hB⟩; rw [E0.out]
    go_wp2
    go_ret2
    exact ⟨rfl, hB⟩
  have E0 := Lib.hid (chk_yes hch)
  have g0 : ¬ bar < 0 := by omega
  have g1 : ¬ 1048576 < bar := by omega
  obtain ⟨k1, k2, k3⟩ := ofK_end hch hb0 hb1
  have hll : l.length = len := HM.out.1
  rw [hll] at k1 k2 k3
  have hm := (hch.2.2.2 (ofK l bar len) (by omega)).1
  have HK := Lib.hid (show _ ∧ _ ∧ _ from ⟨k1, k2, k3⟩)
  have HCH := Lib.hid hch
  have hkl : ofK l bar len < l.length := by omega
  have hbeg : beginK l bar l.length = tickAt l (ofK l bar len) bar 0 0 := begin_is hch hkl k2 k3
  have hbd := beginK_bd hch (bar := bar) (by omega) l.length (Nat.le_refl _)
  have hl64 := hch.2.1
  have HBG := Lib.hid hbeg
  obtain ⟨m1, m2, m3, m4, m5, m6⟩ := hm
  have hres : (0 ≤ beat ∧ beat < (nthM l (ofK l bar len)).2.1 ∧ 0 ≤ rest ∧ rest < (nthM l (ofK l bar len)).2.2 ∧ ((beginK l bar l.length + beat * (nthM l (ofK l bar len)).2.2 + rest ≤ 16777216 ∧ r = 0 ∧ t = beginK l bar l.length + beat * (nthM l (ofK l bar len)).2.2 + rest) ∨ (16777216 < beginK l bar l.length + beat * (nthM l (ofK l bar len)).2.2 + rest ∧ r = 70 ∧ t = 0))) ∨
      ((beat < 0 ∨ (0 ≤ beat ∧ (nthM l (ofK l bar len)).2.1 ≤ beat) ∨ (0 ≤ beat ∧ beat < (nthM l (ofK l bar len)).2.1 ∧ rest < 0) ∨ (0 ≤ beat ∧ beat < (nthM l (ofK l bar len)).2.1 ∧ 0 ≤ rest ∧ (nthM l (ofK l bar len)).2.2 ≤ rest)) ∧ t = 0 ∧ r = 1) := by
    by_cases hp : placeIn l (ofK l bar len) beat rest
    · obtain ⟨p1, p2, p3, p4⟩ := hp
      left
      refine ⟨p1, by omega, p3, by omega, ?_⟩
      have h := tick_of hch ⟨hkl, k2, k3, p1, by omega, p3, by omega⟩ hT
      have e : tickAt l (ofK l bar len) bar beat rest = beginK l bar l.length + beat * (nthM l (ofK l bar len)).2.2 + rest := by
        rw [hbeg]
        unfold tickAt
        omega
      rwa [e] at h
    · right
      refine ⟨?_, tick_err hch hkl k2 k3 hp hT⟩
      unfold placeIn at hp
      omega
  clear hT hbeg k1 k2 k3 hkl hch
  go_enter Try.func12, Try.ntmps12
  go_wp2_with fail
  refine (rmcheck_any a len cap b off l _ HM.out hn).mono ?_; rintro e w2 ⟨rfl, hB⟩; rw [E0.out]
  go_wp2_with fail
  refine (of_any a len cap b off l bar _ (HM.out.grown hB) HCH.out).mono ?_; rintro e w3 ⟨rfl, hb⟩
  replace hB := below_after hB hb hB.size
  clear hb
  obtain ⟨Bg, hBg⟩ : ∃ Bg, Bg = beginK l bar l.length := ⟨_, rfl⟩
  have HBg := Lib.hid hBg
  rw [← hBg] at hres hbd
  clear hBg
  generalize (nthM l (ofK l bar len)).2.1 = n0 at *
  generalize (nthM l (ofK l bar len)).2.2 = u0 at *
  generalize (nthM l (ofK l bar len)).1 = B0 at *
  have nm := blk_new w3 (.cells #[.int .i64 B0, .int .i64 n0, .int .i64 u0] 38)
  have bm1 := blk_cell nm 1; have bm2 := blk_cell nm 2
  simp at bm1 bm2
  replace hB := hB.alloc hB.size (.cells #[.int .i64 B0, .int .i64 n0, .int .i64 u0] 38)
  rcases hres with ⟨p1, p2, p3, p4, hq⟩ | ⟨hq, rfl, rfl⟩
  · go_wp2_with fail
    have pm0 : 0 ≤ beat * u0 := Int.mul_nonneg p1 (by omega)
    have pm1 : beat * u0 ≤ 32 * u0 := Int.mul_le_mul_of_nonneg_right (by omega) (by omega)
    have x1 : IntKind.i64.wrap (beat * u0) = beat * u0 := by rw [IntKind.wrap_i64]; omega
    have x2 : IntKind.i64.wrap (Bg + beat * u0) = Bg + beat * u0 := by rw [IntKind.wrap_i64]; omega
    have x3 : IntKind.i64.wrap (Bg + beat * u0 + rest) = Bg + beat * u0 + rest := by rw [IntKind.wrap_i64]; omega
    refine wp_region_from 0 2 (fun w' => w'.cell? ⟨w3.heap.size, 2, none⟩ = some (.int .i64 u0)) (by kernel_rfl) (by kernel_rfl) (by decide) (by kernel_rfl) (blk_cell nm 2) ?_
    simp only [List.drop_zero, List.take_succ_cons, List.take_zero]
    refine wpHeld_cons (.slice a len cap) (by kernel_rfl) ?_ ?_
    · intro w' s0
      try go_simp
    refine wpHeld_cons (.int .i64 bar) (by kernel_rfl) ?_ ?_
    · intro w' s0
      try go_simp
    refine wpHeld_nil ?_
    go_simp
    refine wpAnyH_from 3 4 (fun _ _ _ _ _ h => h) (by kernel_rfl) (by decide) (by kernel_rfl) (blk_cell nm 2) ?_
    simp only [List.drop_succ_cons, List.drop_zero, List.take_succ_cons, List.take_zero]
    refine wpHeld_cons (.int .i64 beat) (by kernel_rfl) ?_ ?_
    · intro w' s0
      try go_simp
    refine wpHeld_cons (.pointer (some ⟨w3.heap.size, 2, none⟩)) (by kernel_rfl) ?_ ?_
    · intro w' s0
      try go_simp
    refine wpHeld_cons (.int .i64 u0) (by kernel_rfl) ?_ ?_
    · intro w' s0
      try go_simp
    refine wpHeld_cons (.int .i64 (beat * u0)) (by kernel_rfl) ?_ ?_
    · intro w' s0
      try go_simp
    refine wpHeld_nil ?_
    go_simp
    refine wpAnyH_from 8 1 (fun _ _ _ _ _ h => h) (by kernel_rfl) (by decide) (by kernel_rfl) (blk_cell nm 2) ?_
    simp only [List.drop_succ_cons, List.drop_zero, List.take_succ_cons, List.take_zero]
    refine wpHeld_cons (.int .i64 rest) (by kernel_rfl) ?_ ?_
    · intro w' s0
      try go_simp
    refine wpHeld_nil ?_
    go_simp
    refine wpAnyH_one (i := 2) (by kernel_rfl) rfl (by kernel_rfl) (fun K' hK' => ?_)
    go_simp
    refine (begin_any a len cap b off l bar _ (HM.out.grown hB.drew) HCH.out hb0 (by omega)).mono ?_; rintro e w4 ⟨rfl, hb⟩
    rw [← HBg.out]
    have nm4 := blk_below (show (w3.alloc (.cells #[.int .i64 B0, .int .i64 n0, .int .i64 u0] 38)).drew.heap[w3.heap.size]? = some (.cells #[.int .i64 B0, .int .i64 n0, .int .i64 u0] 38 (0, 0)) from nm) hb (by show w3.heap.size < (w3.alloc (.cells #[.int .i64 B0, .int .i64 n0, .int .i64 u0] 38)).heap.size; simp)
    have hB4 := below_after hB.drew hb hB.drew.size
    have bm4 := blk_cell nm4 2
    simp at bm4
    clear hb
    refine hK' _ _ bm4 ?_
    clear hK' K'
    refine wpAnyH_from 7 1 (fun _ _ _ _ _ h => h) (by kernel_rfl) (by decide) (by kernel_rfl) bm4 ?_
    simp only [List.drop_succ_cons, List.drop_zero, List.take_succ_cons, List.take_zero]
    refine wpHeld_cons (.int .i64 (Bg + beat * u0)) (by kernel_rfl) ?_ ?_
    · intro w' s0
      try go_simp
    refine wpHeld_nil ?_
    go_simp
    refine wpAnyH_from 9 2 (fun _ _ _ _ _ h => h) (by kernel_rfl) (by decide) (by kernel_rfl) bm4 ?_
    simp only [List.drop_succ_cons, List.drop_zero, List.take_succ_cons, List.take_zero]
    refine wpHeld_cons (.int .i64 (Bg + beat * u0 + rest)) (by kernel_rfl) ?_ ?_
    · intro w' s0
      try go_simp
    refine wpHeld_cons (.int .i64 (Bg + beat * u0 + rest)) (by kernel_rfl) ?_ ?_
    · intro w' s0
      try go_simp
    refine wpHeld_nil ?_
    go_simp
    refine wpAnyH_done (by kernel_rfl) ?_ _
    refine NoPanic.normal ?_
    rcases hq with ⟨q1, rfl, rfl⟩ | ⟨q1, rfl, rfl⟩
    · have x4 : ¬ 16777216 < Bg + beat * u0 + rest := by omega
      go_wp2
      go_ret2
      exact ⟨rfl, hB4⟩
    · go_wp2
      go_ret2
      exact ⟨rfl, hB4⟩
  · rcases hq with h | ⟨h1, h2⟩ | ⟨h1, h2, h3⟩ | ⟨h1, h2, h3, h4⟩
    all_goals
      go_wp2
      go_ret2
      exact ⟨rfl, hB⟩
end Go.Proofs.Ytkgimglkiniofaa
