/- The walk of MetreLengths (layer 10). -/
import Derived.Test.YtkgimglkiniofaaMetreOf
import Derived.Test.YtkgimglkiniofaaMetreRef
namespace Go.Proofs.Ytkgimglkiniofaa
open Go.ChangeShapes Go.WideShapes Go.ChangeAt Go.RowKit

theorem tick_err {l : List Mt} {bar beat rest t r : Int} {k : Nat} (hc : Changes l) (hk : k < l.length) (c1 : (nthM l k).1 ≤ bar) (c2 : bar < endOf l k) (hn : ¬ placeIn l k beat rest) (hr : TickRes l bar beat rest t r) : t = 0 ∧ r = 1 := by
  rcases hr with ⟨h, _⟩ | ⟨_, t0, r0, hT, ht, hr⟩
  · exact absurd hc h
  · have key : t0 = 0 ∧ r0 = 1 := by
      rcases hT with ⟨k', hk', hj, hlt, hf⟩ | ⟨h, _⟩
      · have hkk : k' = k := by
          rcases Nat.lt_trichotomy k' k with h3 | h3 | h3
          · have := end_le hc h3 hk; omega
          · exact h3
          · have := hj k h3; omega
        subst hkk
        rcases hf with ⟨h, _⟩ | ⟨_, hp, _⟩ | ⟨_, _, h1, h2⟩
        · omega
        · exact absurd hp hn
        · exact ⟨h1, h2⟩
      · have := h k hk; omega
    obtain ⟨rfl, rfl⟩ := key
    rw [if_neg (by omega)] at ht hr
    exact ⟨ht, hr⟩
theorem next_bar {l : List Mt} (h : Changes l) {bar : Int} {k k2 : Nat} (hk : k < l.length) (c1 : (nthM l k).1 ≤ bar) (c2 : bar < endOf l k) (hk2 : k2 < l.length) (d1 : (nthM l k2).1 ≤ bar + 1) (d2 : bar + 1 < endOf l k2) : tickAt l k2 (bar + 1) 0 0 = tickAt l k bar 0 0 + lenOf l k := by
  have e0 : (bar + 1 - (nthM l k).1) * lenOf l k = (bar - (nthM l k).1) * lenOf l k + lenOf l k := by
    rw [show bar + 1 - (nthM l k).1 = (bar - (nthM l k).1) + 1 by omega, Int.add_mul, Int.one_mul]
  rcases Int.lt_or_le (bar + 1) (endOf l k) with h1 | h1
  · obtain rfl := bar_k h (show (nthM l k).1 ≤ bar + 1 by omega) h1 d1 d2 hk hk2
    unfold tickAt
    omega
  · have hb : bar + 1 = endOf l k := by omega
    have hk1 : k + 1 < l.length := by
      rcases Nat.lt_or_ge (k + 1) l.length with h2 | h2
      · exact h2
      · exfalso
        have e1 : endOf l k = 1048577 := by unfold endOf; rw [if_neg (by omega)]
        have := endOf_bd h hk2
        omega
    have e1 : endOf l k = (nthM l (k + 1)).1 := by unfold endOf; rw [if_pos hk1]
    have e2 := endOf_bd h hk1
    obtain rfl := bar_k h (show (nthM l (k + 1)).1 ≤ bar + 1 by omega) (by omega) d1 d2 hk1 hk2
    have st := step_pos h hk
    unfold tickAt
    rw [st.2, ← e1, hb, Int.sub_self, Int.zero_mul]
    rw [← hb]
    omega

set_option maxHeartbeats 4000000 in
theorem metreLengths_walk (a : Option Addr) (b off len cap : Nat) (l : List Mt) (bar : Int) (w : World) (hM : Ms w a len b off l) (hn : len ≤ 9223372036854775807) (hb : 0 < len → ∃ c tb fr, w.heap[b]? = some (.cells c tb fr)) :
    Calls Try.prog 9 #[.slice a len cap, .int .i64 bar] w fun e w' => e = .returned (.bool true) ∧ Below w.heap.size w w' := by
  have hblk : ∀ W, Below w.heap.size w W → 0 < len → ∃ c tb fr, W.heap[b]? = some (.cells c tb fr) := fun W hW h => by
    obtain ⟨c, tb, fr, h1⟩ := hb h
    exact ⟨c, tb, fr, blk_below h1 hW (Array.getElem?_eq_some_iff.1 h1).1⟩
  have HB := Lib.hid hblk
  have HM := Lib.hid hM
  clear hblk hb hM
  go_enter Try.func9, Try.ntmps9
  go_wp2_with fail
  refine (sane_any w).mono ?_; rintro e w1 ⟨rfl, hB⟩
  by_cases hf : (len : Int) ≤ 100
  case neg =>
    have hf2 : (100 : Int) < (len : Int) := by omega
    go_wp2
    go_ret
    exact ⟨rfl, hB⟩
  have hf2 : ¬ (100 : Int) < (len : Int) := by omega
  go_wp2_with fail
  refine (rmcheck_any a len cap b off l _ (HM.out.grown hB) hn).mono ?_; rintro e w2 ⟨rfl, hb⟩
  replace hB := below_after hB hb hB.size
  clear hb
  by_cases hch : Changes l
  case neg =>
    rw [chk_no hch]
    clear hch
    go_wp2
    go_ret
    exact ⟨rfl, hB⟩
  rw [chk_yes hch]
  by_cases hb0 : 0 ≤ bar
  case neg =>
    have g0 : bar < 0 := by omega
    clear hch
    go_wp2
    go_ret
    exact ⟨rfl, hB⟩
  by_cases hb1 : bar < 1048576
  case neg =>
    have g0 : ¬ bar < 0 := by omega
    have g1 : 1048576 ≤ bar := by omega
    clear hch
    go_wp2
    go_ret
    exact ⟨rfl, hB⟩
  have g0 : ¬ bar < 0 := by omega
  have g1 : ¬ 1048576 ≤ bar := by omega
  obtain ⟨k1, k2, k3⟩ := ofK_end hch hb0 (by omega)
  have hll : l.length = len := HM.out.1
  rw [hll] at k1 k2 k3
  obtain ⟨j1, j2, j3⟩ := ofK_end hch (show 0 ≤ bar + 1 by omega) (by omega)
  have hnb := next_bar hch (show ofK l bar len < l.length by omega) k2 k3 j1 j2 j3
  go_wp2_with fail
  refine (of_any a len cap b off l bar _ (HM.out.grown hB) hch).mono ?_; rintro e w3 ⟨rfl, hb⟩
  replace hB := below_after hB hb hB.size
  clear hb
  have hm := (hch.2.2.2 (ofK l bar len) (by omega)).1
  have ln := lenOf_bd hm
  have hL : lenOf l (ofK l bar len) = (nthM l (ofK l bar len)).2.1 * (nthM l (ofK l bar len)).2.2 := rfl
  obtain ⟨m1, m2, m3, m4, m5, m6⟩ := hm
  have hkl : ofK l bar len < l.length := by omega
  rw [hll] at hnb j1 j2 j3
  have R1 : ∀ {t r : Int}, TickRes l bar 0 0 t r → (tickAt l (ofK l bar len) bar 0 0 ≤ 16777216 ∧ r = 0 ∧ t = tickAt l (ofK l bar len) bar 0 0) ∨ (16777216 < tickAt l (ofK l bar len) bar 0 0 ∧ r = 70 ∧ t = 0) := fun h => tick_of hch ⟨hkl, k2, k3, by omega, by omega, by omega, by omega⟩ h
  have R2 : ∀ {t r : Int}, TickRes l (bar + 1) 0 0 t r → (tickAt l (ofK l bar len) bar 0 0 + lenOf l (ofK l bar len) ≤ 16777216 ∧ r = 0 ∧ t = tickAt l (ofK l bar len) bar 0 0 + lenOf l (ofK l bar len)) ∨ (16777216 < tickAt l (ofK l bar len) bar 0 0 + lenOf l (ofK l bar len) ∧ r = 70 ∧ t = 0) := fun h => by
    have hm2 := (hch.2.2.2 (ofK l (bar + 1) len) (by omega)).1
    obtain ⟨_, _, p3, _, p5, _⟩ := hm2
    have := tick_of hch ⟨by omega, j2, j3, by omega, by omega, by omega, by omega⟩ h
    rwa [hnb] at this
  have hA3 : tickAt l (ofK l bar len) bar ((nthM l (ofK l bar len)).2.1 - 1) ((nthM l (ofK l bar len)).2.2 - 1) = tickAt l (ofK l bar len) bar 0 0 + lenOf l (ofK l bar len) - 1 := by
    unfold tickAt
    have : ((nthM l (ofK l bar len)).2.1 - 1) * (nthM l (ofK l bar len)).2.2 = lenOf l (ofK l bar len) - (nthM l (ofK l bar len)).2.2 := by rw [hL, Int.sub_mul, Int.one_mul]
    omega
  have R3 : ∀ {t r : Int}, TickRes l bar ((nthM l (ofK l bar len)).2.1 - 1) ((nthM l (ofK l bar len)).2.2 - 1) t r → (tickAt l (ofK l bar len) bar 0 0 + lenOf l (ofK l bar len) - 1 ≤ 16777216 ∧ r = 0 ∧ t = tickAt l (ofK l bar len) bar 0 0 + lenOf l (ofK l bar len) - 1) ∨ (16777216 < tickAt l (ofK l bar len) bar 0 0 + lenOf l (ofK l bar len) - 1 ∧ r = 70 ∧ t = 0) := fun h => by
    have := tick_of hch ⟨hkl, k2, k3, by omega, by omega, by omega, by omega⟩ h
    rwa [hA3] at this
  have R4 : ∀ {t r : Int}, TickRes l bar (nthM l (ofK l bar len)).2.1 0 t r → t = 0 ∧ r = 1 := fun h => tick_err hch hkl k2 k3 (fun p => by have := p.2.1; omega) h
  have R5 : ∀ {t r : Int}, TickRes l bar 0 (nthM l (ofK l bar len)).2.2 t r → t = 0 ∧ r = 1 := fun h => tick_err hch hkl k2 k3 (fun p => by have := p.2.2.2; omega) h
  have tA := tickOf_bd hch (ofK l bar len) (by omega)
  have hA0 : 0 ≤ tickAt l (ofK l bar len) bar 0 0 := by
    unfold tickAt
    have : 0 ≤ (bar - (nthM l (ofK l bar len)).1) * lenOf l (ofK l bar len) := Int.mul_nonneg (by omega) (by omega)
    omega
  have HR := Lib.hid (show _ ∧ _ ∧ _ ∧ _ ∧ _ from ⟨@R1, @R2, @R3, @R4, @R5⟩)
  clear R1 R2 R3 R4 R5 hA3 hnb j1 j2 j3 k1 k2 k3 hkl hll hch tA
  generalize tickAt l (ofK l bar len) bar 0 0 = A at *
  generalize (nthM l (ofK l bar len)).2.1 = n0 at *
  generalize (nthM l (ofK l bar len)).2.2 = u0 at *
  generalize (nthM l (ofK l bar len)).1 = B0 at *
  generalize lenOf l (ofK l bar len) = L at *
  have z1 : IntKind.i64.wrap (bar + 1) = bar + 1 := wrap_id (by omega)
  have z2 : IntKind.i64.wrap (n0 - 1) = n0 - 1 := wrap_id (by omega)
  have z3 : IntKind.i64.wrap (u0 - 1) = u0 - 1 := wrap_id (by omega)
  have z4 : IntKind.i64.wrap (n0 * u0) = L := by rw [← hL]; exact wrap_id (by omega)
  have z5 : n0 * u0 = L := hL.symm
  have HL := Lib.hid hL; clear hL
  have nm := blk_new w3 (.cells #[.int .i64 B0, .int .i64 n0, .int .i64 u0] 38)
  have bm1 := blk_cell nm 1; have bm2 := blk_cell nm 2
  simp at bm1 bm2
  replace hB := hB.alloc hB.size (.cells #[.int .i64 B0, .int .i64 n0, .int .i64 u0] 38)
  go_wp2_with fail
  refine (tick_any a b off len cap l bar 0 0 _ (HM.out.grown hB) hn (HB.out _ hB)).mono ?_; rintro e v1 ⟨hb, t1, r1, hT1, rfl⟩
  replace hT1 := HR.out.1 hT1
  replace hB := below_after hB hb hB.size
  replace nm := blk_below nm hb (Array.getElem?_eq_some_iff.1 nm).1
  replace bm1 := blk_cell nm 1; replace bm2 := blk_cell nm 2
  simp at bm1 bm2
  clear hb
  go_wp2_with fail
  refine (tick_any a b off len cap l (bar + 1) 0 0 _ (HM.out.grown hB) hn (HB.out _ hB)).mono ?_; rintro e v2 ⟨hb, t2, r2, hT2, rfl⟩
  replace hT2 := HR.out.2.1 hT2
  replace hB := below_after hB hb hB.size
  replace nm := blk_below nm hb (Array.getElem?_eq_some_iff.1 nm).1
  replace bm1 := blk_cell nm 1; replace bm2 := blk_cell nm 2
  simp at bm1 bm2
  clear hb
  go_wp2_with fail
  refine (tick_any a b off len cap l bar (n0 - 1) (u0 - 1) _ (HM.out.grown hB) hn (HB.out _ hB)).mono ?_; rintro e v3 ⟨hb, t3, r3, hT3, rfl⟩
  replace hT3 := HR.out.2.2.1 hT3
  replace hB := below_after hB hb hB.size
  replace nm := blk_below nm hb (Array.getElem?_eq_some_iff.1 nm).1
  replace bm1 := blk_cell nm 1; replace bm2 := blk_cell nm 2
  simp at bm1 bm2
  clear hb
  go_wp2_with fail
  refine (tick_any a b off len cap l bar n0 0 _ (HM.out.grown hB) hn (HB.out _ hB)).mono ?_; rintro e v4 ⟨hb, t4, r4, hT4, rfl⟩
  replace hT4 := HR.out.2.2.2.1 hT4
  replace hB := below_after hB hb hB.size
  replace nm := blk_below nm hb (Array.getElem?_eq_some_iff.1 nm).1
  replace bm1 := blk_cell nm 1; replace bm2 := blk_cell nm 2
  simp at bm1 bm2
  clear hb
  obtain ⟨rfl, rfl⟩ := hT4
  go_wp2_with fail
  refine (tick_any a b off len cap l bar 0 u0 _ (HM.out.grown hB) hn (HB.out _ hB)).mono ?_; rintro e v5 ⟨hb, t5, r5, hT5, rfl⟩
  replace hT5 := HR.out.2.2.2.2 hT5
  replace hB := below_after hB hb hB.size
  replace nm := blk_below nm hb (Array.getElem?_eq_some_iff.1 nm).1
  replace bm1 := blk_cell nm 1; replace bm2 := blk_cell nm 2
  simp at bm1 bm2
  clear hb
  obtain ⟨rfl, rfl⟩ := hT5
  clear z4
  rcases hT2 with ⟨q1, rfl, rfl⟩ | ⟨q1, rfl, rfl⟩
  · obtain ⟨rfl, rfl⟩ : r1 = 0 ∧ t1 = A := by
      rcases hT1 with ⟨_, h1, h2⟩ | ⟨h, _⟩
      · exact ⟨h1, h2⟩
      · omega
    obtain ⟨rfl, rfl⟩ : r3 = 0 ∧ t3 = t1 + L - 1 := by
      rcases hT3 with ⟨_, h1, h2⟩ | ⟨h, _⟩
      · exact ⟨h1, h2⟩
      · omega
    clear hT1 hT3
    have x1 : IntKind.i64.wrap L = L := wrap_id (by omega)
    have x2 : IntKind.i64.wrap (t1 + L) = t1 + L := wrap_id (by omega)
    have x3 : IntKind.i64.wrap (t1 + L - 1) = t1 + L - 1 := wrap_id (by omega)
    go_wp2
    go_ret
    exact ⟨by first | rfl | exact ret_bool (by simp) | exact ret_bool (by simp; omega), hB⟩
  · clear hT3
    rcases hT1 with ⟨q2, rfl, rfl⟩ | ⟨q2, rfl, rfl⟩
    · have x1 : IntKind.i64.wrap L = L := wrap_id (by omega)
      have x2 : IntKind.i64.wrap (t1 + L) = t1 + L := wrap_id (by omega)
      have x3 : decide (16777216 < t1 + L) = true := decide_eq_true q1
      go_wp2
      go_ret
      exact ⟨by first | rfl | exact ret_bool (by simp) | exact ret_bool (by simp; omega), hB⟩
    · go_wp2
      go_ret
      exact ⟨by first | rfl | exact ret_bool (by simp) | exact ret_bool (by simp; omega), hB⟩
end Go.Proofs.Ytkgimglkiniofaa
