/- The contract of tempo.Sample (layer 9). -/
import Derived.Test.YtafffmcmdhbghaaTemSample
namespace Go.Proofs.Ytafffmcmdhbghaa
open Go.ChangeShapes Go.WideShapes Go.ChangeAt Go.RowKit

noncomputable def sE (l : List Tp) (tick : Int) : Int := by classical exact if Map l then (if 0 ≤ tick ∧ tick ≤ 16777216 then (if 1099511627776 < smp l tick then 70 else 0) else 1) else 90
noncomputable def sV (l : List Tp) (tick : Int) : Int := by classical exact if Map l ∧ (0 ≤ tick ∧ tick ≤ 16777216) ∧ smp l tick ≤ 1099511627776 then smp l tick else 0
theorem s_no {l : List Tp} {tick : Int} (h : ¬ Map l) : sE l tick = 90 ∧ sV l tick = 0 := ⟨if_neg h, if_neg fun g => h g.1⟩
theorem s_arg {l : List Tp} {tick : Int} (h : Map l) (h1 : ¬ (0 ≤ tick ∧ tick ≤ 16777216)) : sE l tick = 1 ∧ sV l tick = 0 := ⟨(if_pos h).trans (if_neg h1), if_neg fun g => h1 g.2.1⟩
theorem s_big {l : List Tp} {tick : Int} (h : Map l) (h1 : 0 ≤ tick ∧ tick ≤ 16777216) (h2 : 1099511627776 < smp l tick) : sE l tick = 70 ∧ sV l tick = 0 := ⟨(if_pos h).trans ((if_pos h1).trans (if_pos h2)), if_neg fun g => by omega⟩
theorem s_ok {l : List Tp} {tick : Int} (h : Map l) (h1 : 0 ≤ tick ∧ tick ≤ 16777216) (h2 : smp l tick ≤ 1099511627776) : sE l tick = 0 ∧ sV l tick = smp l tick := ⟨(if_pos h).trans ((if_pos h1).trans (if_neg (by omega))), if_pos ⟨h, h1, h2⟩⟩

theorem sample_ok (b off len cap : Nat) (l : List Tp) (tick : Int) (w : World) (hch : Map l) (h0 : 0 ≤ tick) (h1 : tick ≤ 16777216) (c : Array Value) (tb : TypeId) (fr : Nat × Nat) (hb : w.heap[b]? = some (.cells c tb fr)) (hM : Ts w (some ⟨b, off, none⟩) len b off l) :
    Calls Try.prog 36 #[.slice (some ⟨b, off, none⟩) len cap, .int .i64 tick] w fun e w' => Below w.heap.size w w' ∧ e = .returned (.int .i64 (smp l tick)) :=
  callsIn_wide.1 (sample_in b off len cap l tick w hch hM.1 h0 h1 c tb fr hb hM)

set_option maxHeartbeats 1000000 in
theorem tsample_any (a : Option Addr) (b off len cap : Nat) (l : List Tp) (tick : Int) (w : World) (hM : Ts w a len b off l) (hn : len ≤ 9223372036854775807) (hb : 0 < len → ∃ c tb fr, w.heap[b]? = some (.cells c tb fr)) :
    Calls Try.prog 23 #[.slice a len cap, .int .i64 tick] w fun e w' => e = .returned (.tuple #[.int .i64 (sV l tick), .int .i64 (sE l tick)]) ∧ Below w.heap.size w w' := by
  by_cases hch : Map l
  case neg =>
    obtain ⟨e1, e2⟩ := s_no (tick := tick) hch
    rw [e1, e2]
    have hc := chk_no hch
    clear hch e1 e2
    go_enter Try.func23, Try.ntmps23
    go_wp2_with fail
    refine (tcheck_any a len cap b off l _ hM hn).mono ?_; rintro e w2 ⟨rfl, hB⟩; rw [hc]
    go_wp2
    exact bodyPost_ret (by simp [results, Try.results23, go_sem]) rfl ⟨rfl, hB⟩
  have hc := chk_yes hch
  by_cases ht : 0 ≤ tick ∧ tick ≤ 16777216
  case neg =>
    obtain ⟨e1, e2⟩ := s_arg hch ht
    rw [e1, e2]
    have v1 := within_f ht
    clear hch e1 e2
    go_enter Try.func23, Try.ntmps23
    go_wp2_with fail
    refine (tcheck_any a len cap b off l _ hM hn).mono ?_; rintro e w2 ⟨rfl, hB⟩; rw [hc]
    clear hM
    go_wp2_with (go_at_call 29; refine (within_any _ _ _ _).mono ?_; rintro e w' ⟨rfl, rfl⟩)
    exact bodyPost_ret (by simp [results, Try.results23, go_sem]) rfl ⟨rfl, hB⟩
  have v1 := within_t ht
  have hl : 0 < len := by have := hch.1; rw [hM.1] at this; omega
  obtain ⟨c, tb, fr, hb⟩ := hb hl
  obtain ⟨rfl, hbw⟩ := hM.2.1 hl
  have HM := Lib.hid (show _ ∧ _ ∧ _ ∧ _ from ⟨hM, hch, hb, ht⟩)
  clear hM hb
  have hS : (1099511627776 < smp l tick ∧ sE l tick = 70 ∧ sV l tick = 0) ∨ (¬ 1099511627776 < smp l tick ∧ sE l tick = 0 ∧ sV l tick = smp l tick) := by
    by_cases h2 : 1099511627776 < smp l tick
    · exact .inl ⟨h2, s_big hch ht h2⟩
    · exact .inr ⟨h2, s_ok hch ht (by omega)⟩
  clear hch
  obtain ⟨V, hV⟩ : ∃ V, V = smp l tick := ⟨_, rfl⟩
  rw [← hV] at hS
  have HV := Lib.hid hV
  clear hV
  rcases hS with ⟨h2, e1, e2⟩ | ⟨h2, e1, e2⟩
  all_goals
    rw [e1, e2]
    clear e1 e2
    go_enter Try.func23, Try.ntmps23
    go_wp2_with fail
    refine (tcheck_any _ len cap b off l _ HM.out.1 hn).mono ?_; rintro e w2 ⟨rfl, hB⟩; rw [hc]
    have HB := Lib.hid hB
    clear hB
    go_wp2_with (go_at_call 29; refine (within_any _ _ _ _).mono ?_; rintro e w' ⟨rfl, rfl⟩)
    refine (sample_ok b off len cap l tick w2 HM.out.2.1 HM.out.2.2.2.1 HM.out.2.2.2.2 c tb fr (blk_below HM.out.2.2.1 HB.out hbw) (HM.out.1.grown HB.out)).mono ?_
    rintro e w3 ⟨hb3, rfl⟩
    rw [← HV.out]
    have hB := below_after HB.out hb3 HB.out.size
    clear hb3 HB HM hc v1
    go_wp2
    exact bodyPost_ret (by simp [results, Try.results23, go_sem]) rfl ⟨rfl, hB⟩
end Go.Proofs.Ytafffmcmdhbghaa
