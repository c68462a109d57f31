/- The contract of tempo.Tick (layer 9). -/
import Derived.Test.YtcgndcapdodhlaaTemMono
import Derived.Test.YtcgndcapdodhlaaHeld
namespace Go.Proofs.Ytcgndcapdodhlaa
open Go.ChangeShapes Go.WideShapes Go.ChangeAt Go.RowKit Go.Shelf

set_option maxHeartbeats 4000000 in
theorem tick1_any (Bm Bp b off len cap : Nat) (l : List Tp) (t pos : Int) (w : World) (hch : Map l) (h0 : 0 ≤ t) (h1 : t ≤ 16777216) (c : Array Value) (tb : TypeId) (fr : Nat × Nat) (hb : w.heap[b]? = some (.cells c tb fr)) (hM : Ts w (some ⟨b, off, none⟩) len b off l)
    (k1 : w.heap[Bm]? = some (.cells #[.slice (some ⟨b, off, none⟩) len cap] 22 (0, 0))) (k2 : w.heap[Bp]? = some (.cells #[.int .i64 pos] 3 (0, 0))) :
    Calls Try.prog 25 #[.int .i64 t, .pointer (some ⟨Bm, 0, none⟩), .pointer (some ⟨Bp, 0, none⟩)] w fun e w' => e = .returned (.bool (decide (pos < smp l t))) ∧ Below w.heap.size w w' := by
  have c1 := blk_cell k1 0; have c2 := blk_cell k2 0
  simp at c1 c2
  have hBm := (Array.getElem?_eq_some_iff.1 k1).1
  have hBp := (Array.getElem?_eq_some_iff.1 k2).1
  have HH := Lib.hid (show _ ∧ _ ∧ _ from ⟨hch, hb, hM⟩)
  clear hch hb hM k1 k2
  go_enter Try.func25, Try.ntmps25
  go_wp2_with fail
  refine wp_region_from 0 2 (fun w' => w'.cell? ⟨Bm, 0, none⟩ = some (.slice (some ⟨b, off, none⟩) len cap) ∧ w'.cell? ⟨Bp, 0, none⟩ = some (.int .i64 pos)) (by kernel_rfl) (by kernel_rfl) (by decide) (by kernel_rfl) ⟨c1, c2⟩ ?_
  simp only [List.drop_zero, List.take_succ_cons, List.take_zero]
  refine wpHeld_cons (.slice (some ⟨b, off, none⟩) len cap) (by kernel_rfl) ?_ ?_
  · rintro w' ⟨s0, s1⟩
    try go_simp
  refine wpHeld_cons (.int .i64 t) (by kernel_rfl) ?_ ?_
  · rintro w' ⟨s0, s1⟩
    try go_simp
  refine wpHeld_nil ?_
  go_simp
  refine wpAnyH_from 3 1 (fun _ _ _ _ _ h => h) (by kernel_rfl) (by decide) (by kernel_rfl) ⟨c1, c2⟩ ?_
  simp only [List.drop_succ_cons, List.drop_zero, List.take_succ_cons, List.take_zero]
  refine wpHeld_cons (.int .i64 pos) (by kernel_rfl) ?_ ?_
  · rintro w' ⟨s0, s1⟩
    try go_simp
  refine wpHeld_nil ?_
  go_simp
  refine wpAnyH_one (i := 2) (by kernel_rfl) rfl (by kernel_rfl) (fun K' hK' => ?_)
  go_simp
  refine (sample_ok b off len cap l t w.drew HH.out.1 h0 h1 c tb fr HH.out.2.1 HH.out.2.2).mono ?_
  rintro e w3 ⟨hb3, rfl⟩
  have hB : Below w.heap.size w w3 := (Below.refl _ _).drew.trans hb3
  have d1 := (hB.cell (p := ⟨Bm, 0, none⟩) hBm).trans c1
  have d2 := (hB.cell (p := ⟨Bp, 0, none⟩) hBp).trans c2
  refine hK' _ _ ⟨d1, d2⟩ ?_
  clear hK' K'
  refine wpAnyH_one (i := 4) (by kernel_rfl) rfl (by kernel_rfl) (fun K' hK' => ?_)
  go_simp
  refine hK' _ _ ⟨d1, d2⟩ ?_
  clear hK' K'
  refine wpAnyH_one (i := 5) (by kernel_rfl) rfl (by kernel_rfl) (fun K' hK' => ?_)
  go_simp
  refine hK' _ _ ⟨d1, d2⟩ ?_
  clear hK' K'
  refine wpAnyH_done (by kernel_rfl) ?_ _
  refine NoPanic.normal ?_
  go_wp2
  go_ret
  exact ⟨rfl, hB⟩

set_option maxHeartbeats 4000000 in
theorem search_any (Bm Bp b off len cap : Nat) (l : List Tp) (pos : Int) (w : World) (hch : Map l) (hpos : 0 ≤ pos) (c : Array Value) (tb : TypeId) (fr : Nat × Nat) (hb : w.heap[b]? = some (.cells c tb fr)) (hM : Ts w (some ⟨b, off, none⟩) len b off l)
    (k1 : w.heap[Bm]? = some (.cells #[.slice (some ⟨b, off, none⟩) len cap] 22 (0, 0))) (k2 : w.heap[Bp]? = some (.cells #[.int .i64 pos] 3 (0, 0))) :
    Calls Try.prog 24 #[.int .i64 16777217, .func (.func 25) #[] #[.pointer (some ⟨Bm, 0, none⟩), .pointer (some ⟨Bp, 0, none⟩)]] w fun e w' => (∃ t, TickIs l pos t ∧ e = .returned (.int .i64 (t + 1))) ∧ Below w.heap.size w w' := by
  have HH := Lib.hid (show _ ∧ _ ∧ _ ∧ _ ∧ _ from ⟨hch, hb, hM, k1, k2⟩)
  have hz := smp_zero hch
  have HZ := Lib.hid hz
  clear hch hb hM k1 k2 hz
  go_enter Try.func24, Try.ntmps24
  go_wp2
  go_loopw [5, 6] (fun i j wr => ∃ p q : Nat, p ≤ q ∧ q ≤ 16777217 ∧ i = .int .i64 p ∧ j = .int .i64 q ∧ (0 < p → smp l ((p : Int) - 1) ≤ pos) ∧ (q < 16777217 → pos < smp l q) ∧ Below w.heap.size w wr) (fun i j _ => (intOf j).toNat - (intOf i).toNat)
  case atStart => exact ⟨0, 16777217, by omega, by omega, rfl, rfl, fun h => by omega, fun h => by omega, Below.refl _ _⟩
  case round =>
    obtain ⟨p, q, hpq, hq, rfl, rfl, hp1, hq1, hB⟩ := hrel
    have HF := Lib.hid (show _ ∧ _ from ⟨hp1, hq1⟩)
    clear hp1 hq1
    by_cases hlt : p < q
    · go_wp2_with fail
      obtain ⟨h, hh⟩ : ∃ h : Nat, h = (p + q) / 2 := ⟨_, rfl⟩
      have e : ((p : Int) + (q : Int)) / 2 = (h : Int) := by omega
      have h1 : p ≤ h := by omega
      have h2 : h < q := by omega
      rw [e]
      clear e hh
      refine (tick1_any Bm Bp b off len cap l h pos wr HH.out.1 (by omega) (by omega) c tb fr (blk_below HH.out.2.1 hB (Array.getElem?_eq_some_iff.1 HH.out.2.1).1) (HH.out.2.2.1.grown hB) (blk_below HH.out.2.2.2.1 hB (Array.getElem?_eq_some_iff.1 HH.out.2.2.2.1).1) (blk_below HH.out.2.2.2.2 hB (Array.getElem?_eq_some_iff.1 HH.out.2.2.2.2).1)).mono ?_
      rintro e w4 ⟨rfl, hb4⟩
      replace hB := below_after hB hb4 hB.size
      clear hb4
      by_cases q1 : pos < smp l h
      · have d : decide (pos < smp l h) = true := decide_eq_true q1
        rw [d]
        have Q1 := Lib.hid q1
        clear d q1
        go_wp2
        go_roundw
        case rel => exact ⟨p, h, by omega, by omega, rfl, by go_num, HF.out.1, fun _ => Q1.out, hB⟩
        case measure => simp [intOf]; omega
      · have d : decide (pos < smp l h) = false := decide_eq_false q1
        rw [d]
        have Q1 := Lib.hid q1
        clear d q1
        go_wp2
        go_roundw
        case rel => exact ⟨h + 1, q, by omega, by omega, by go_num, rfl, fun _ => by have := Q1.out; rw [show ((h + 1 : Nat) : Int) - 1 = (h : Int) by omega]; omega, HF.out.2, hB⟩
        case measure => simp [intOf]; omega
    · obtain rfl : p = q := by omega
      go_wp2
      go_ret
      have hp0 : 0 < p := by
        rcases Nat.eq_zero_or_pos p with e | e
        · subst e; have := HF.out.2 (by omega); have e0 := HZ.out; have e1 : pos < smp l 0 := this; rw [e0] at e1; omega
        · exact e
      refine ⟨⟨(p : Int) - 1, ⟨by omega, by omega, HF.out.1 hp0, fun h => by have := HF.out.2 (by omega); rwa [Int.sub_add_cancel]⟩, by rw [Int.sub_add_cancel]; rfl⟩, hB⟩

/-- What Tick answers. -/
def TickRes (l : List Tp) (pos t e : Int) : Prop :=
  (¬ Map l ∧ t = 0 ∧ e = 90) ∨ (Map l ∧ ¬ (0 ≤ pos ∧ pos ≤ 1099511627776) ∧ t = 0 ∧ e = 1) ∨ (Map l ∧ (0 ≤ pos ∧ pos ≤ 1099511627776) ∧ TickIs l pos t ∧ e = 0)

set_option maxHeartbeats 1000000 in
theorem ttick_any (a : Option Addr) (b off len cap : Nat) (l : List Tp) (pos : Int) (w : World) (hM : Ts w a len b off l) (hn : len ≤ 9223372036854775807) (hb : 0 < len → ∃ c tb fr, w.heap[b]? = some (.cells c tb fr)) :
    Calls Try.prog 15 #[.slice a len cap, .int .i64 pos] w fun e w' => (∃ t r, TickRes l pos t r ∧ e = .returned (.tuple #[.int .i64 t, .int .i64 r])) ∧ Below w.heap.size w w' := by
  obtain ⟨w0, hw0⟩ : ∃ w0, w0 = (w.alloc (.cells #[.slice a len cap] 22)).alloc (.cells #[.int .i64 pos] 3) := ⟨_, rfl⟩
  have hB0 : Below w.heap.size w w0 := by rw [hw0]; go_grown
  have k1 : w0.heap[w.heap.size]? = some (.cells #[.slice a len cap] 22 (0, 0)) := by rw [hw0]; exact blk_alloc (blk_new w _) _
  have k2 : w0.heap[w.heap.size + 1]? = some (.cells #[.int .i64 pos] 3 (0, 0)) := by rw [hw0]; exact blk_new2 _ _ _
  have HW := Lib.hid (show _ ∧ _ ∧ _ ∧ _ from ⟨hw0, hB0, k1, k2⟩)
  clear hw0 hB0 k1 k2
  by_cases hch : Map l
  case neg =>
    have hc := chk_no hch
    go_enter Try.func15, Try.ntmps15
    go_wp2_with fail
    rw [← HW.out.1]
    refine (tcheck_any a len cap b off l _ (hM.grown HW.out.2.1) hn).mono ?_; rintro e w2 ⟨rfl, hB⟩; rw [hc]
    replace hB := below_after HW.out.2.1 hB HW.out.2.1.size
    clear hM
    go_wp2
    exact bodyPost_ret (by simp [results, Try.results15, go_sem]) rfl ⟨⟨0, 90, .inl ⟨hch, rfl, rfl⟩, rfl⟩, hB⟩
  have hc := chk_yes hch
  have hl : 0 < len := by have := hch.1; rw [hM.1] at this; omega
  obtain ⟨c, tb, fr, hb⟩ := hb hl
  obtain ⟨rfl, hbw⟩ := hM.2.1 hl
  have HM := Lib.hid (show _ ∧ _ ∧ _ from ⟨hM, hch, hb⟩)
  clear hM hch hb
  go_enter Try.func15, Try.ntmps15
  go_wp2_with fail
  rw [← HW.out.1]
  refine (tcheck_any _ len cap b off l _ (HM.out.1.grown HW.out.2.1) hn).mono ?_; rintro e w2 ⟨rfl, hb2⟩; rw [hc]
  have hB := below_after HW.out.2.1 hb2 HW.out.2.1.size
  have k1 := blk_below HW.out.2.2.1 hb2 (Array.getElem?_eq_some_iff.1 HW.out.2.2.1).1
  have k2 := blk_below HW.out.2.2.2 hb2 (Array.getElem?_eq_some_iff.1 HW.out.2.2.2).1
  have c2 := blk_cell k2 0
  simp at c2
  have HK := Lib.hid (show _ ∧ _ ∧ _ from ⟨hB, k1, k2⟩)
  clear hB hb2 k1 k2
  by_cases ht : 0 ≤ pos ∧ pos ≤ 1099511627776
  case neg =>
    have v1 := within_f ht
    go_wp2_with (go_at_call 20; refine (within_any _ _ _ _).mono ?_; rintro e w' ⟨rfl, rfl⟩)
    exact bodyPost_ret (by simp [results, Try.results15, go_sem]) rfl ⟨⟨0, 1, .inr (.inl ⟨HM.out.2.1, ht, rfl, rfl⟩), rfl⟩, HK.out.1⟩
  have v1 := within_t ht
  go_wp2_with (go_at_call 20; refine (within_any _ _ _ _).mono ?_; rintro e w' ⟨rfl, rfl⟩)
  refine (search_any w.heap.size (w.heap.size + 1) b off len cap l pos w2 HM.out.2.1 ht.1 c tb fr (blk_below HM.out.2.2 HK.out.1 hbw) (HM.out.1.grown HK.out.1) HK.out.2.1 HK.out.2.2).mono ?_
  rintro e w3 ⟨⟨t, hT, rfl⟩, hb3⟩
  have hB := below_after HK.out.1 hb3 HK.out.1.size
  have t1 := hT.1; have t2 := hT.2.1
  have HT := Lib.hid hT
  clear hb3 hT
  go_wp2
  exact bodyPost_ret (by simp [results, Try.results15, go_sem]) rfl ⟨⟨t, 0, .inr (.inr ⟨HM.out.2.1, ht, HT.out, rfl⟩), rfl⟩, hB⟩
end Go.Proofs.Ytcgndcapdodhlaa
