/- The reference's Place (layer 10). -/
import Derived.Test.YtkgimglkiniofaaMetreAtM
namespace Go.Proofs.Ytkgimglkiniofaa
open Go.ChangeShapes Go.WideShapes Go.ChangeAt Go.RowKit

set_option maxHeartbeats 1000000 in
theorem rat_any (a : Option Addr) (n cap b off : Nat) (l : List Mt) (tick : Int) (w : World) (h : Ms w a n b off l) (hch : Changes l) (h0 : 0 ≤ tick) (h1 : tick ≤ 16777216) :
    Calls Try.prog 24 #[.slice a n cap, .int .i64 tick] w fun e w' => e = .returned (.int .i64 (atK l tick l.length)) ∧ Below w.heap.size w w' := by
  have hn64 : n ≤ 64 := by rw [← h.1]; exact hch.2.1
  have hn0 : 0 < n := by rw [← h.1]; exact hch.1
  have hl := h.1
  obtain ⟨rfl, hbw⟩ := h.2.1 hn0
  have HC := Lib.hid h; clear h
  have HL := Lib.hid hl; have HCH := Lib.hid hch; clear hl hch
  go_enter Try.func24, Try.ntmps24
  go_wp2
  go_loopw [5, 6] (fun t i wr => ∃ k : Nat, k ≤ n ∧ i = .int .i64 k ∧ t = .int .i64 (atK l tick k) ∧ Below w.heap.size w wr) (fun _ i _ => n - (intOf i).toNat)
  case atStart => exact ⟨0, Nat.zero_le _, rfl, rfl, Below.refl _ _⟩
  case round =>
    obtain ⟨k, hk, rfl, rfl, hb⟩ := hrel
    by_cases hlt : k < n
    · have hkl : k < l.length := by rw [HL.out]; exact hlt
      obtain ⟨c0, c1, c2⟩ := (HC.out.grown hb).2.2 k hlt
      have hm := (HCH.out.2.2.2 k hkl).1
      have hbg : beginK l (nthM l k).1 l.length = tickOf l k := by
        have e := bg_k HCH.out (b := (nthM l k).1) hkl (Int.le_refl _) (endOf_bd HCH.out hkl).1
        rw [Int.sub_self, Int.zero_mul, Int.add_zero] at e
        exact e
      have tb := tickOf_bd HCH.out k (by omega)
      have ab := atK_bd HCH.out h0 k (by omega)
      have ab1 := atK_bd HCH.out h0 (k + 1) (by omega)
      have ln := lenOf_bd hm
      have hlen : lenOf l k = (nthM l k).2.1 * (nthM l k).2.2 := rfl
      have ek : atK l tick (k + 1) = if tickOf l k ≤ tick then (nthM l k).1 + (tick - tickOf l k) / lenOf l k else atK l tick k := rfl
      obtain ⟨m1, m2, m3, m4, m5, m6⟩ := hm
      generalize atK l tick k = A at *
      generalize hn0e : (nthM l k).2.1 = n0 at *
      generalize hu0e : (nthM l k).2.2 = u0 at *
      generalize hB0 : (nthM l k).1 = B0 at *
      generalize tickOf l k = T at *
      have HB := Lib.hid (show _ ∧ _ from ⟨hb, hbg⟩); clear hb hbg
      go_wp2_with fail
      refine (begin_any (some ⟨b, off, none⟩) n cap b off l B0 _ (HC.out.grown HB.out.1) HCH.out m1 (by omega)).mono ?_; rintro e w2 ⟨rfl, hb2⟩
      rw [HB.out.2]
      have hb := below_after HB.out.1 hb2 HB.out.1.size
      clear hb2
      obtain ⟨c0, c1, c2⟩ := (HC.out.grown hb).2.2 k hlt
      have EB := Lib.hid (show _ ∧ _ ∧ _ from ⟨hB0, hn0e, hu0e⟩)
      rw [hB0] at c0; rw [hn0e] at c1; rw [hu0e] at c2
      clear hB0 hn0e hu0e
      by_cases hle : T ≤ tick
      · have hq := Int.tdiv_eq_ediv_of_nonneg (b := n0 * u0) (show 0 ≤ tick - T by omega)
        rw [if_pos hle, hlen] at ek
        have q0 := Int.ediv_nonneg (show 0 ≤ tick - T by omega) (show 0 ≤ n0 * u0 by omega)
        have q1 := Int.ediv_le_self (a := tick - T) (n0 * u0) (by omega)
        have x1 : IntKind.i64.wrap (n0 * u0) = n0 * u0 := by rw [IntKind.wrap_i64]; omega
        have x0 : n0 * u0 ≠ 0 := by omega
        generalize (tick - T) / (n0 * u0) = q at *
        have EK := Lib.hid ek; clear ek
        have HB1 := Lib.hid hb; clear hb
        go_wp2
        go_quiet (fail)
        go_wp2
        go_roundw
        case rel => exact ⟨k + 1, by omega, by go_num, by rw [EK.out], below_drewN HB1.out _⟩
        case measure => simp [intOf]; omega
      · rw [if_neg hle] at ek
        have EK := Lib.hid ek; clear ek
        have HB1 := Lib.hid hb; clear hb
        go_wp2
        go_roundw
        case rel => exact ⟨k + 1, by omega, by go_num, by rw [EK.out], HB1.out⟩
        case measure => simp [intOf]; omega
    · obtain rfl : k = n := by omega
      go_wp2
      go_ret
      exact ⟨ret_int (by rw [HL.out]), hb⟩

theorem place_bad {l : List Mt} {tick B b o r : Int} (hc : ¬ Changes l) (hr : PlaceRes l tick B b o r) : B = 0 ∧ b = 0 ∧ o = 0 ∧ r = 100 := by
  rcases hr with ⟨_, h⟩ | ⟨h, _⟩ | ⟨h, _⟩
  · exact h
  · exact absurd h hc
  · exact absurd h hc
theorem place_arg {l : List Mt} {tick B b o r : Int} (hc : Changes l) (ht : ¬ (0 ≤ tick ∧ tick ≤ 16777216)) (hr : PlaceRes l tick B b o r) : B = 0 ∧ b = 0 ∧ o = 0 ∧ r = 1 := by
  rcases hr with ⟨h, _⟩ | ⟨_, _, h⟩ | ⟨_, h, _⟩
  · exact absurd hc h
  · exact h
  · exact absurd h ht
theorem place_past {l : List Mt} {tick B b o r : Int} (hc : Changes l) (ht : 0 ≤ tick ∧ tick ≤ 16777216) (hp : tickOf l l.length ≤ tick) (hr : PlaceRes l tick B b o r) : B = 0 ∧ b = 0 ∧ o = 0 ∧ r = 70 := by
  rcases hr with ⟨h, _⟩ | ⟨_, h, _⟩ | ⟨_, _, h⟩
  · exact absurd hc h
  · exact absurd ht h
  · rcases h with ⟨k, hk, hj, hs, _⟩ | ⟨_, h⟩
    · have hS := spot_of_at hc hk ht.1 hj hs
      have := tickOf_mono hc (show k + 1 ≤ l.length by omega) (Nat.le_refl _)
      have := hS.2.2.1
      omega
    · exact h

set_option maxHeartbeats 4000000 in
theorem rplace_any (a : Option Addr) (b off len cap : Nat) (l : List Mt) (tick B bt o r : Int) (w : World) (hM : Ms w a len b off l) (hn : len ≤ 9223372036854775807) (hT : PlaceRes l tick B bt o r) :
    Calls Try.prog 16 #[.slice a len cap, .int .i64 tick] w fun e w' => e = .returned (.tuple #[.int .i64 B, .int .i64 bt, .int .i64 o, .int .i64 r]) ∧ Below w.heap.size w w' := by
  have HM := Lib.hid hM; clear hM
  by_cases hch : Changes l
  case neg =>
    obtain ⟨rfl, rfl, rfl, rfl⟩ := place_bad hch hT
    clear hT
    have e := chk_no hch
    clear hch
    go_enter Try.func16, Try.ntmps16
    go_wp2_with fail
    refine (rmcheck_any a len cap b off l _ HM.out hn).mono ?_; rintro e w2 ⟨rfl, hB⟩; rw [e]
    go_wp2
    exact bodyPost_ret (by simp [results, Try.results16, go_sem]) rfl ⟨rfl, hB⟩
  have E0 := Lib.hid (chk_yes hch)
  by_cases hb0 : 0 ≤ tick
  case neg =>
    obtain ⟨rfl, rfl, rfl, rfl⟩ := place_arg hch (by omega) hT
    clear hT
    have g0 : tick < 0 := by omega
    clear hch
    go_enter Try.func16, Try.ntmps16
    go_wp2_with fail
    refine (rmcheck_any a len cap b off l _ HM.out hn).mono ?_; rintro e w2 ⟨rfl, hB⟩; rw [E0.out]
    go_wp2
    exact bodyPost_ret (by simp [results, Try.results16, go_sem]) rfl ⟨rfl, hB⟩
  by_cases hb1 : tick ≤ 16777216
  case neg =>
    obtain ⟨rfl, rfl, rfl, rfl⟩ := place_arg hch (by omega) hT
    clear hT
    have g0 : ¬ tick < 0 := by omega
    have g1 : 16777216 < tick := by omega
    clear hch
    go_enter Try.func16, Try.ntmps16
    go_wp2_with fail
    refine (rmcheck_any a len cap b off l _ HM.out hn).mono ?_; rintro e w2 ⟨rfl, hB⟩; rw [E0.out]
    go_wp2
    exact bodyPost_ret (by simp [results, Try.results16, go_sem]) rfl ⟨rfl, hB⟩
  have g0 : ¬ tick < 0 := by omega
  have g1 : ¬ 16777216 < tick := by omega
  have HCH := Lib.hid hch
  have bd := atK_bd hch hb0 l.length (Nat.le_refl _)
  rcases tick_in_or (l := l) hb0 with ⟨k, B', b', o', hs⟩ | hp
  case inr =>
    obtain ⟨rfl, rfl, rfl, rfl⟩ := place_past hch ⟨hb0, hb1⟩ hp hT
    clear hT
    have ap := at_past hch hp
    have g2 : 1048576 < atK l tick l.length := by omega
    clear hch hp ap
    go_enter Try.func16, Try.ntmps16
    go_wp2_with fail
    refine (rmcheck_any a len cap b off l _ HM.out hn).mono ?_; rintro e w2 ⟨rfl, hB⟩; rw [E0.out]
    go_wp2_with fail
    refine (rat_any a len cap b off l tick _ (HM.out.grown hB) HCH.out hb0 hb1).mono ?_; rintro e w3 ⟨rfl, hb⟩
    replace hB := below_after hB hb hB.size
    clear hb
    generalize atK l tick l.length = at0 at *
    go_wp2
    exact bodyPost_ret (by simp [results, Try.results16, go_sem]) rfl ⟨rfl, hB⟩
  case inl =>
    obtain ⟨rfl, hS⟩ := place_of hch hb0 hb1 hs.1 hs.2.1 hs.2.2.1 hT
    clear hT hs
    have ea := at_spot hch hS
    obtain ⟨s1, s2, s3, s4, s5, s6⟩ := bg_spot hch hS
    have sb := (spot_bar hch hS).1
    have g2 : ¬ 1048576 < B := by omega
    obtain ⟨k1, k2, k3⟩ := ofK_end hch s5 s6
    have hk0 : ofK l B l.length = k := bar_k hch k2 k3 sb.2.1 sb.2.2.1 k1 sb.1
    have hll : l.length = len := HM.out.1
    rw [hll] at hk0
    have hm := (hch.2.2.2 k sb.1).1
    have hbd := beginK_bd hch (bar := B) (by omega) l.length (Nat.le_refl _)
    have hl64 := hch.2.1
    obtain ⟨m1, m2, m3, m4, m5, m6⟩ := hm
    have HK := Lib.hid (show _ ∧ _ from ⟨hk0, ea⟩)
    clear hk0 ea hS sb k1 k2 k3 hch
    generalize hn0 : (nthM l k).2.1 = n0 at *
    generalize hu0 : (nthM l k).2.2 = u0 at *
    generalize hB0 : (nthM l k).1 = B0 at *
    go_enter Try.func16, Try.ntmps16
    go_wp2_with fail
    refine (rmcheck_any a len cap b off l _ HM.out hn).mono ?_; rintro e w2 ⟨rfl, hB⟩; rw [E0.out]
    go_wp2_with fail
    refine (rat_any a len cap b off l tick _ (HM.out.grown hB) HCH.out hb0 hb1).mono ?_; rintro e w3 ⟨rfl, hb⟩
    replace hB := below_after hB hb hB.size
    clear hb
    rw [HK.out.2]
    go_wp2_with fail
    refine (begin_any a len cap b off l B _ (HM.out.grown hB) HCH.out s5 (by omega)).mono ?_; rintro e w4 ⟨rfl, hb⟩
    replace hB := below_after hB hb hB.size
    clear hb
    unfold bg at s1
    generalize beginK l B l.length = Bg at *
    clear hll
    obtain ⟨R, hR⟩ : ∃ R, R = bt * u0 + o := ⟨_, rfl⟩
    have pm0 : 0 ≤ bt * u0 := Int.mul_nonneg s2 (by omega)
    have pm1 : bt * 1 ≤ bt * u0 := Int.mul_le_mul_of_nonneg_left (by omega) s2
    have xr : IntKind.i64.wrap (tick - Bg) = R := by rw [IntKind.wrap_i64]; omega
    have d1 : R / u0 = bt := by rw [hR, Int.add_comm, Int.add_mul_ediv_right _ _ (by omega), Int.ediv_eq_zero_of_lt s3 s4, Int.zero_add]
    have d2 : R % u0 = o := by rw [hR, Int.add_comm, Int.add_mul_emod_self_right]; exact Int.emod_eq_of_lt s3 s4
    have r0 : 0 ≤ R := by omega
    have d3 : R.tdiv u0 = bt := by rw [Int.tdiv_eq_ediv_of_nonneg r0]; exact d1
    have d4 : R.tmod u0 = o := by rw [Int.tmod_eq_emod_of_nonneg r0]; exact d2
    have b1 : bt ≤ 16777216 := by omega
    have u1 : u0 ≠ 0 := by omega
    have HS := Lib.hid (show _ ∧ _ from ⟨s1, hR⟩)
    clear s1 hR pm0 pm1
    go_wp2_with fail
    refine (of_any a len cap b off l B _ (HM.out.grown hB) HCH.out).mono ?_; rintro e w5 ⟨rfl, hb⟩
    replace hB := below_after hB hb hB.size
    clear hb
    rw [HK.out.1]
    rw [hn0, hu0, hB0]
    have nm := blk_new w5 (.cells #[.int .i64 B0, .int .i64 n0, .int .i64 u0] 38)
    have bm1 := blk_cell nm 1; have bm2 := blk_cell nm 2
    simp at bm1 bm2
    replace hB := hB.alloc hB.size (.cells #[.int .i64 B0, .int .i64 n0, .int .i64 u0] 38)
    have HB := Lib.hid hB; clear hB
    go_wp2
    go_quiet (fail)
    go_wp2
    exact bodyPost_ret (by simp [results, Try.results16, go_sem]) rfl ⟨rfl, below_drewN HB.out _⟩
end Go.Proofs.Ytkgimglkiniofaa
