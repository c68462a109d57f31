/- The reference's At and Sample, whole (layer 9). -/
import Derived.Test.YtafffmcmdhbghaaTemAt
namespace Go.Proofs.Ytafffmcmdhbghaa
open Go.ChangeShapes Go.WideShapes Go.ChangeAt Go.RowKit Go.Shelf

set_option maxRecDepth 100000 in
set_option maxHeartbeats 8000000 in
theorem rat_any (b off n cap : Nat) (l : List Tp) (tick : Int) (w : World) (h : Ts w (some ⟨b, off, none⟩) n b off l) (hch : Map l) (h0 : 0 ≤ tick) (h1 : tick ≤ 16777216) :
    Calls Try.prog 47 #[.slice (some ⟨b, off, none⟩) n cap, .int .i64 tick] w fun e w' => e = .returned (.int .i64 (smp l tick)) ∧ Below w.heap.size w w' := by
  have hn : n ≤ 64 := by rw [← h.1]; exact hch.2.1
  have hn1 : 1 ≤ n := by rw [← h.1]; exact hch.1
  have hbw := (h.2.1 (by omega)).2
  have hl := h.1
  have HT := Lib.hid (show _ ∧ _ ∧ _ from ⟨h, hch, hl⟩)
  clear h hch hl
  go_enter Try.func47, Try.ntmps47
  go_wp2
  go_loopw [5, 6] (fun p i wr => ∃ k : Nat, k < n ∧ i = .int .i64 k ∧ p = .int .i64 (posT l k) ∧ (nthT l k).1 ≤ tick ∧ Below w.heap.size w wr) (fun _ i _ => n - (intOf i).toNat)
  case atStart => exact ⟨0, by omega, rfl, rfl, by rw [HT.out.2.1.2.2.1]; exact h0, Below.refl _ _⟩
  case round =>
    obtain ⟨k, hk, rfl, rfl, hkt, hB⟩ := hrel
    have hkl : k < l.length := by rw [HT.out.2.2]; exact hk
    have pb := posT_bd HT.out.2.1 k hkl
    have kb := tick_bd HT.out.2.1 hkl
    obtain ⟨c0, _, _, _⟩ := (HT.out.1.grown hB).2.2 k hk
    have hs := hB.size
    have hpm := fun hi : inP l k tick => smp_in HT.out.2.1 hi
    have hab := fun hi : inP l k tick => prt_bd (map_ok HT.out.2.1 hkl) (t := tick - (nthT l k).1) (by omega) (by omega) (fun hr => by have := hi.2.2 (ramp_next HT.out.2.1 hkl hr); omega)
    have HP := Lib.hid (show _ ∧ _ from ⟨hpm, hab⟩)
    clear hpm hab
    by_cases hk1 : k + 1 < n
    · obtain ⟨d0, _, _, _⟩ := (HT.out.1.grown hB).2.2 (k + 1) hk1
      have kl := map_lt HT.out.2.1 (k := k) (by rw [HT.out.2.2]; exact hk1)
      have kb1 := tick_bd HT.out.2.1 (k := k + 1) (by rw [HT.out.2.2]; exact hk1)
      have pa := prt_all HT.out.2.1 (k := k) (by rw [HT.out.2.2]; exact hk1)
      have tn : posT l (k + 1) = posT l k + prt (nthT l k) (nthT l (k + 1)) ((nthT l (k + 1)).1 - (nthT l k).1) := rfl
      have ek : IntKind.i64.wrap ((k : Int) + 1) = (k : Int) + 1 := wrap_id (by omega)
      have dk : decide ((k : Int) + 1 < (n : Int)) = true := by simp; omega
      by_cases hle : (nthT l (k + 1)).1 ≤ tick
      · have ut : IntKind.i64.wrap ((nthT l (k + 1)).1 - (nthT l k).1) = (nthT l (k + 1)).1 - (nthT l k).1 := wrap_id (by omega)
        have dl : decide ((nthT l (k + 1)).1 ≤ tick) = true := decide_eq_true hle
        have TN := Lib.hid (show _ ∧ _ from ⟨tn, hle⟩)
        have HN := Lib.hid pa
        clear tn pa
        have i1 : ((k : Int) + 1) < (n : Int) := by omega
        have i2 : (k : Int) < (n : Int) := by omega
        go_wp2_with fail
        refine wp_region_from 0 15 (fun w' => w'.cell? ⟨b, off + k * 4, none⟩ = some (.int .i64 (nthT l k).1) ∧ w'.cell? ⟨b, off + (k + 1) * 4, none⟩ = some (.int .i64 (nthT l (k + 1)).1)) (by kernel_rfl) (by kernel_rfl) (by decide) (by kernel_rfl) ⟨c0, d0⟩ ?_
        simp only [List.drop_zero, List.take_succ_cons, List.take_zero]
        refine wpHeld_cons (.int .i64 (posT l k)) (by kernel_rfl) ?_ ?_
        · rintro w' ⟨s0, s1⟩
          try go_simp
        refine wpHeld_cons (.slice (some ⟨b, off, none⟩) n cap) (by kernel_rfl) ?_ ?_
        · rintro w' ⟨s0, s1⟩
          try go_simp
        refine wpHeld_cons (.int .i64 (k : Int)) (by kernel_rfl) ?_ ?_
        · rintro w' ⟨s0, s1⟩
          try go_simp
        refine wpHeld_cons (.slice (some ⟨b, off, none⟩) n cap) (by kernel_rfl) ?_ ?_
        · rintro w' ⟨s0, s1⟩
          try go_simp
        refine wpHeld_cons (.int .i64 (k : Int)) (by kernel_rfl) ?_ ?_
        · rintro w' ⟨s0, s1⟩
          try go_simp
        refine wpHeld_cons (.int .i64 ((k : Int) + 1)) (by kernel_rfl) ?_ ?_
        · rintro w' ⟨s0, s1⟩
          try go_simp
        refine wpHeld_cons (.pointer (some ⟨b, off + (k + 1) * 4, none⟩)) (by kernel_rfl) ?_ ?_
        · rintro w' ⟨s0, s1⟩
          try go_simp
          try omega
        refine wpHeld_cons (.pointer (some ⟨b, off + (k + 1) * 4, none⟩)) (by kernel_rfl) ?_ ?_
        · rintro w' ⟨s0, s1⟩
          try go_simp
        refine wpHeld_cons (.int .i64 (nthT l (k + 1)).1) (by kernel_rfl) ?_ ?_
        · rintro w' ⟨s0, s1⟩
          try go_simp
        refine wpHeld_cons (.slice (some ⟨b, off, none⟩) n cap) (by kernel_rfl) ?_ ?_
        · rintro w' ⟨s0, s1⟩
          try go_simp
        refine wpHeld_cons (.int .i64 (k : Int)) (by kernel_rfl) ?_ ?_
        · rintro w' ⟨s0, s1⟩
          try go_simp
        refine wpHeld_cons (.pointer (some ⟨b, off + k * 4, none⟩)) (by kernel_rfl) ?_ ?_
        · rintro w' ⟨s0, s1⟩
          try go_simp
          try omega
        refine wpHeld_cons (.pointer (some ⟨b, off + k * 4, none⟩)) (by kernel_rfl) ?_ ?_
        · rintro w' ⟨s0, s1⟩
          try go_simp
        refine wpHeld_cons (.int .i64 (nthT l k).1) (by kernel_rfl) ?_ ?_
        · rintro w' ⟨s0, s1⟩
          try go_simp
        refine wpHeld_cons (.int .i64 ((nthT l (k + 1)).1 - (nthT l k).1)) (by kernel_rfl) ?_ ?_
        · rintro w' ⟨s0, s1⟩
          try go_simp
        refine wpHeld_nil ?_
        go_simp
        refine wpAnyH_one (i := 15) (by kernel_rfl) rfl (by kernel_rfl) (fun K' hK' => ?_)
        go_simp
        refine (within_any2 b off n cap l k ((nthT l (k + 1)).1 - (nthT l k).1) wr.drew (HT.out.1.grown hB.drew) HT.out.2.1 hk (by omega) (by omega) (fun _ => Int.le_refl _)).mono ?_
        rintro e w3 ⟨rfl, hb3⟩
        have hBd : Below wr.heap.size wr w3 := (Below.refl _ _).drew.trans hb3
        have f0 := (hBd.cell (p := ⟨b, off + k * 4, none⟩) (by show b < wr.heap.size; omega)).trans c0
        have f1 := (hBd.cell (p := ⟨b, off + (k + 1) * 4, none⟩) (by show b < wr.heap.size; omega)).trans d0
        have hB3 := below_after hB hBd hs
        clear hb3 hBd
        obtain ⟨V, hV⟩ : ∃ V, V = prt (nthT l k) (nthT l (k + 1)) ((nthT l (k + 1)).1 - (nthT l k).1) := ⟨_, rfl⟩
        rw [← hV]
        have vb : 0 ≤ V ∧ V ≤ 17592186044416 := by have := HN.out; rw [← hV] at this; exact this
        have e2 : posT l (k + 1) = posT l k + V := by have := TN.out.1; rw [← hV] at this; exact this
        have uw : IntKind.i64.wrap (posT l k + V) = posT l k + V := wrap_id (by omega)
        have HE := Lib.hid (show _ ∧ _ from ⟨hV, e2⟩)
        clear hV e2
        refine hK' _ _ ⟨f0, f1⟩ ?_
        clear hK' K'
        refine wpAnyH_one (i := 16) (by kernel_rfl) rfl (by kernel_rfl) (fun K' hK' => ?_)
        go_simp
        refine hK' _ _ ⟨f0, f1⟩ ?_
        clear hK' K'
        refine wpAnyH_one (i := 17) (by kernel_rfl) rfl (by kernel_rfl) (fun K' hK' => ?_)
        go_simp
        refine hK' _ _ ⟨f0, f1⟩ ?_
        clear hK' K'
        refine wpAnyH_done (by kernel_rfl) ?_ _
        refine NoPanic.normal ?_
        go_wp2
        go_roundw
        case rel => exact ⟨k + 1, hk1, by go_num, by rw [HE.out.2], TN.out.2, hB3⟩
        case measure => simp [intOf]; omega
      · have dl : decide ((nthT l (k + 1)).1 ≤ tick) = false := decide_eq_false hle
        have hi : inP l k tick := ⟨hkl, hkt, fun _ => by omega⟩
        have ut : IntKind.i64.wrap (tick - (nthT l k).1) = tick - (nthT l k).1 := wrap_id (by omega)
        have e1 := HP.out.1 hi
        have e2 := HP.out.2 hi
        have h2 : tick - (nthT l k).1 ≤ (nthT l (k + 1)).1 - (nthT l k).1 := by omega
        have E1 := Lib.hid e1
        have HH := Lib.hid h2
        clear e1 hi tn pa h2
        go_wp2_with fail
        refine (within_any2 b off n cap l k (tick - (nthT l k).1) wr (HT.out.1.grown hB) HT.out.2.1 hk (by omega) (by omega) (fun _ => HH.out)).mono ?_
        rintro e w3 ⟨rfl, hb3⟩
        have hB3 := below_after hB hb3 hs
        clear hb3
        obtain ⟨V, hV⟩ : ∃ V, V = prt (nthT l k) (nthT l (k + 1)) (tick - (nthT l k).1) := ⟨_, rfl⟩
        rw [← hV] at e2 ⊢
        have EV := Lib.hid hV
        clear hV
        have uw : IntKind.i64.wrap (posT l k + V) = posT l k + V := wrap_id (by omega)
        go_wp2
        go_ret
        exact ⟨by rw [E1.out]; unfold atT; rw [← EV.out]; rfl, hB3⟩
    · have hi : inP l k tick := ⟨hkl, hkt, fun h => by rw [HT.out.2.2] at h; omega⟩
      have dk : decide ((k : Int) + 1 < (n : Int)) = false := by simp; omega
      have ut : IntKind.i64.wrap (tick - (nthT l k).1) = tick - (nthT l k).1 := wrap_id (by omega)
      have e1 := HP.out.1 hi
      have e2 := HP.out.2 hi
      have E1 := Lib.hid e1
      clear e1 hi
      go_wp2_with fail
      refine (within_any2 b off n cap l k (tick - (nthT l k).1) wr (HT.out.1.grown hB) HT.out.2.1 hk (by omega) (by omega) (fun h => absurd h hk1)).mono ?_
      rintro e w3 ⟨rfl, hb3⟩
      have hB3 := below_after hB hb3 hs
      clear hb3
      obtain ⟨V, hV⟩ : ∃ V, V = prt (nthT l k) (nthT l (k + 1)) (tick - (nthT l k).1) := ⟨_, rfl⟩
      rw [← hV] at e2 ⊢
      have EV := Lib.hid hV
      clear hV
      have uw : IntKind.i64.wrap (posT l k + V) = posT l k + V := wrap_id (by omega)
      go_wp2
      go_ret
      exact ⟨by rw [E1.out]; unfold atT; rw [← EV.out]; rfl, hB3⟩

set_option maxHeartbeats 1000000 in
theorem rsample_any (a : Option Addr) (b off len cap : Nat) (l : List Tp) (tick : Int) (w : World) (hM : Ts w a len b off l) (hn : len ≤ 9223372036854775807) :
    Calls Try.prog 35 #[.slice a len cap, .int .i64 tick] w fun e w' => e = .returned (.tuple #[.int .i64 (sV l tick), .int .i64 (sE l tick)]) ∧ Below w.heap.size w w' := by
  by_cases hch : Map l
  case neg =>
    obtain ⟨e1, e2⟩ := s_no (tick := tick) hch
    rw [e1, e2]
    have hc := chk_no hch
    clear hch e1 e2
    go_enter Try.func35, Try.ntmps35
    go_wp2_with fail
    refine (rcheck_any a len cap b off l _ hM hn).mono ?_; rintro e w2 ⟨rfl, hB⟩; rw [hc]
    clear hM
    go_wp2
    exact bodyPost_ret (by simp [results, Try.results35, go_sem]) rfl ⟨rfl, hB⟩
  have hc := chk_yes hch
  by_cases ht : 0 ≤ tick ∧ tick ≤ 16777216
  case neg =>
    obtain ⟨e1, e2⟩ := s_arg hch ht
    rw [e1, e2]
    clear hch e1 e2
    by_cases q : tick < 0
    · go_enter Try.func35, Try.ntmps35
      go_wp2_with fail
      refine (rcheck_any a len cap b off l _ hM hn).mono ?_; rintro e w2 ⟨rfl, hB⟩; rw [hc]
      clear hM
      go_wp2
      exact bodyPost_ret (by simp [results, Try.results35, go_sem]) rfl ⟨rfl, hB⟩
    · have q2 : 16777216 < tick := by omega
      go_enter Try.func35, Try.ntmps35
      go_wp2_with fail
      refine (rcheck_any a len cap b off l _ hM hn).mono ?_; rintro e w2 ⟨rfl, hB⟩; rw [hc]
      clear hM
      go_wp2
      exact bodyPost_ret (by simp [results, Try.results35, go_sem]) rfl ⟨rfl, hB⟩
  have q1 : ¬ tick < 0 := by omega
  have q2 : ¬ 16777216 < tick := by omega
  have hl : 0 < len := by have := hch.1; rw [hM.1] at this; omega
  obtain ⟨rfl, hbw⟩ := hM.2.1 hl
  have HM := Lib.hid (show _ ∧ _ ∧ _ from ⟨hM, hch, ht⟩)
  clear hM
  have hS : (1099511627776 < smp l tick ∧ sE l tick = 70 ∧ sV l tick = 0) ∨ (¬ 1099511627776 < smp l tick ∧ sE l tick = 0 ∧ sV l tick = smp l tick) := by
    by_cases h2 : 1099511627776 < smp l tick
    · exact .inl ⟨h2, s_big hch ht h2⟩
    · exact .inr ⟨h2, s_ok hch ht (by omega)⟩
  clear hch
  obtain ⟨V, hV⟩ : ∃ V, V = smp l tick := ⟨_, rfl⟩
  rw [← hV] at hS
  have HV := Lib.hid hV
  clear hV
  rcases hS with ⟨h2, e1, e2⟩ | ⟨h2, e1, e2⟩
  all_goals
    rw [e1, e2]
    clear e1 e2
    go_enter Try.func35, Try.ntmps35
    go_wp2_with fail
    refine (rcheck_any _ len cap b off l _ HM.out.1 hn).mono ?_; rintro e w2 ⟨rfl, hB⟩; rw [hc]
    go_wp2_with fail
    refine (rat_any b off len cap l tick w2 (HM.out.1.grown hB) HM.out.2.1 HM.out.2.2.1 HM.out.2.2.2).mono ?_
    rintro e w3 ⟨rfl, hb3⟩
    rw [← HV.out]
    replace hB := below_after hB hb3 hB.size
    clear hb3
    go_wp2
    exact bodyPost_ret (by simp [results, Try.results35, go_sem]) rfl ⟨rfl, hB⟩
end Go.Proofs.Ytafffmcmdhbghaa
