/- The walk of TempoSplit (layer 9). -/
import Derived.Test.YtcgndcapdodhlaaTemLawB
import Derived.Test.YtcgndcapdodhlaaTemInsM
import Derived.Test.YtcgndcapdodhlaaTemFour
namespace Go.Proofs.Ytcgndcapdodhlaa
open Go.ChangeShapes Go.WideShapes Go.ChangeAt Go.RowKit

theorem insAt_here {l : List Tp} (hm : Map l) {u : Nat} {p : Int} (hu : u < l.length) (h1 : (nthT l u).1 < p) (h3 : u + 1 < l.length → p < (nthT l (u + 1)).1) : InsAt l p (u + 1) (u + 1) :=
  .inr ⟨rfl, hu, fun j hj => by
    rcases Nat.lt_trichotomy j (u + 1) with c | c | c
    · by_cases e : j = u
      · subst e; omega
      · have := tick_lt hm (j := j) (k := u) (by omega) hu; omega
    · subst c; have := h3 hj; omega
    · have := tick_lt hm (j := u + 1) (k := j) c hj; have := h3 (by omega); omega, fun j hj => by
    by_cases e : j = u
    · subst e; exact h1
    · have := tick_lt hm (j := j) (k := u) (by omega) hu; omega, h3⟩
theorem split_no {l : List Tp} (hm : Map l) {u : Nat} {p : Int} (hu : u < l.length) (hle : 0 ≤ p → (nthT l u).1 ≤ p) (h3 : u + 1 < l.length → p < (nthT l (u + 1)).1) (hne : (nthT l u).1 ≠ p) (hc : (nthT l u).2.2.2 = false)
    {A R : Nat} (hI : InsAt l p A R) (hX : ¬ Map (insX l (p, (nthT l u).2.1, (nthT l u).2.2.1, false) A R)) : p < 0 ∨ 16777216 < p ∨ l.length = 64 := by
  by_cases c0 : p < 0
  · exact .inl c0
  by_cases c1 : 16777216 < p
  · exact .inr (.inl c1)
  by_cases c2 : l.length = 64
  · exact .inr (.inr c2)
  exfalso
  have h1 : (nthT l u).1 < p := by have := hle (by omega); omega
  obtain ⟨rfl, rfl⟩ := insAt_one hI (insAt_here hm hu h1 h3)
  exact hX (split_map hm hu (by have := hm.2.1; omega) h1 (by omega) h3 hc)
theorem split_yes {l : List Tp} (hm : Map l) {u : Nat} {p : Int} (hu : u < l.length) (hle : 0 ≤ p → (nthT l u).1 ≤ p) (h3 : u + 1 < l.length → p < (nthT l (u + 1)).1) (hne : (nthT l u).1 ≠ p) (hc : (nthT l u).2.2.2 = false)
    {A R : Nat} (hI : InsAt l p A R) (hX : Map (insX l (p, (nthT l u).2.1, (nthT l u).2.2.1, false) A R)) {q : Int} (hq : 0 ≤ q) :
    smp (insX l (p, (nthT l u).2.1, (nthT l u).2.2.1, false) A R) q ≤ smp l q ∧ smp l q ≤ smp (insX l (p, (nthT l u).2.1, (nthT l u).2.2.1, false) A R) q + 1 := by
  obtain ⟨hA, _, _⟩ := insAt_le hI
  have oA := (hX.2.2.2.2 A (by rw [insX_len hA]; omega)).1
  rw [insX_at hA] at oA
  have p0 : 0 ≤ p := oA.1
  have p1 : p ≤ 16777216 := oA.2.1
  have h1 : (nthT l u).1 < p := by have := hle p0; omega
  obtain ⟨rfl, rfl⟩ := insAt_one hI (insAt_here hm hu h1 h3)
  have hl := hX.2.1
  rw [insX_len hA] at hl
  exact split_smp hm hu (by omega) h1 p1 h3 hc hq

set_option maxRecDepth 100000 in
set_option maxHeartbeats 8000000 in
theorem tempoSplit_walk (a : Option Addr) (b off len cap : Nat) (l : List Tp) (p q : Int) (w : World) (hM : Ts w a len b off l) (hn : len ≤ 9223372036854775807) (hb : 0 < len → ∃ c tb fr, w.heap[b]? = some (.cells c tb fr)) (hlc : len ≤ cap) (hcm : cap ≤ 9223372036854775807) (hnc : a = none → cap = 0) :
    Calls Try.prog 9 #[.slice a len cap, .int .i64 p, .int .i64 q] w fun e w' => e = .returned (.bool true) ∧ Below w.heap.size w w' := by
  have HM := Lib.hid (show _ ∧ _ from ⟨hM, hb⟩)
  have hlen := hM.1
  clear hb hM
  go_enter Try.func9, Try.ntmps9
  go_wp2_with fail
  refine (sane_any w).mono ?_; rintro e w1 ⟨rfl, hB⟩
  go_wp2_with fail
  refine (tcheck_any a len cap b off l _ (HM.out.1.grown hB) hn).mono ?_; rintro e w2 ⟨rfl, hb⟩
  replace hB := below_after hB hb hB.size
  clear hb
  by_cases hm : Map l
  case neg =>
    rw [chk_no hm]
    clear hm
    go_wp2
    go_ret
    exact ⟨rfl, hB⟩
  rw [chk_yes hm]
  have hl1 : 1 ≤ len := by rw [← hlen]; exact hm.1
  have hl64 : len ≤ 64 := by rw [← hlen]; exact hm.2.1
  have z0 : ((len : Int) == 0) = false := by simp; omega
  obtain ⟨rfl, hbw⟩ := HM.out.1.2.1 (by omega)
  obtain ⟨c0, c1, c2, c3⟩ := (HM.out.1.grown hB).2.2 0 (by omega)
  simp only [Nat.zero_mul, Nat.add_zero] at c0 c1 c2 c3
  have HMap := Lib.hid (show _ ∧ _ from ⟨hm, hlen⟩)
  have i00 : 0 < len := by omega
  have i0 : (0 : Int) < (len : Int) := by omega
  clear hm hlen
  have k0 := blk_new w2 (.cells #[.int .i64 (nthT l 0).1, .int .i64 (nthT l 0).2.1, .int .i64 (nthT l 0).2.2.1, .bool (nthT l 0).2.2.2] 30)
  have hB2 := hB.alloc hB.size (.cells #[.int .i64 (nthT l 0).1, .int .i64 (nthT l 0).2.1, .int .i64 (nthT l 0).2.2.1, .bool (nthT l 0).2.2.2] 30)
  have HK := Lib.hid (show _ ∧ _ ∧ _ from ⟨k0, hB2, hB⟩)
  have hs0 := hB.size
  clear k0 hB2 hB
  go_wp2
  go_loopw [8] (fun i wr => ∃ k u : Nat, k ≤ len ∧ i = .int .i64 k ∧ u < len ∧ wr.heap[w2.heap.size]? = some (.cells #[.int .i64 (nthT l u).1, .int .i64 (nthT l u).2.1, .int .i64 (nthT l u).2.2.1, .bool (nthT l u).2.2.2] 30 (0, 0)) ∧ (u = 0 ∨ (nthT l u).1 ≤ p) ∧ (∀ j, j < k → (nthT l j).1 ≤ p → j ≤ u) ∧ Below w.heap.size w wr) (fun i _ => len - (intOf i).toNat)
  case atStart => exact ⟨0, 0, by omega, rfl, i00, HK.out.1, .inl rfl, fun j hj => by omega, HK.out.2.1⟩
  case round =>
    obtain ⟨k, u, hk, rfl, hu, hA, hu0, hall, hB⟩ := hrel
    clear HK
    by_cases hlt : k < len
    · have i2 : (k : Int) < (len : Int) := by omega
      obtain ⟨c0, c1, c2, c3⟩ := (HM.out.1.grown hB).2.2 k hlt
      have r0 := hB.size
      have uk : IntKind.i64.wrap ((k : Int) + 1) = (k : Int) + 1 := wrap_id (by omega)
      have HF := Lib.hid (show _ ∧ _ ∧ _ ∧ _ from ⟨hA, hu0, hall, hB⟩)
      have f0 := blk_free hA 0; have f1 := blk_free hA 1; have f2 := blk_free hA 2; have f3 := blk_free hA 3
      have a0 := blk_cell hA 0; have a1 := blk_cell hA 1; have a2 := blk_cell hA 2; have a3 := blk_cell hA 3
      simp at a0 a1 a2 a3
      clear hA hu0 hall hB
      by_cases q1 : (nthT l k).1 ≤ p
      · have HQ := Lib.hid q1
        go_wp2
        go_roundw
        case rel => exact ⟨k + 1, k, by omega, by go_num, hlt, four_set HF.out.1, .inr HQ.out, fun j hj _ => by omega, four_below (by omega) HF.out.2.2.2⟩
        case measure => simp [intOf] <;> omega
      · have q2 : decide ((nthT l k).1 ≤ p) = false := decide_eq_false q1
        have HQ := Lib.hid q1
        go_wp2
        go_roundw
        case rel => exact ⟨k + 1, u, by omega, by go_num, hu, HF.out.1, HF.out.2.1, fun j hj h => by
          by_cases e : j = k
          · subst e; exact absurd h (Int.not_le.2 (by simpa using HQ.out))
          · exact HF.out.2.2.1 j (by omega) h, HF.out.2.2.2⟩
        case measure => simp [intOf] <;> omega
    · obtain rfl : k = len := by omega
      have ha := blk_cell hA 0; have ha1 := blk_cell hA 1; have ha2 := blk_cell hA 2; have ha3 := blk_cell hA 3
      simp at ha ha1 ha2 ha3
      have hul : u < l.length := by rw [HMap.out.2]; exact hu
      have ou := (HMap.out.1.2.2.2.2 u hul).1
      have hnx : u + 1 < l.length → p < (nthT l (u + 1)).1 := fun h => by
        rcases Int.lt_or_le p (nthT l (u + 1)).1 with c | c
        · exact c
        · have := hall (u + 1) (by rw [← HMap.out.2]; exact h) c; omega
      have hle : 0 ≤ p → (nthT l u).1 ≤ p := fun h => by
        rcases hu0 with e | e
        · subst e; rw [HMap.out.1.2.2.1]; exact h
        · exact e
      have r0 := hB.size
      have HF := Lib.hid (show _ ∧ _ ∧ _ ∧ _ ∧ _ from ⟨hA, hnx, hle, hB, ou⟩)
      clear hA hu0 hall hB hnx hle ou
      cases hR : (nthT l u).2.2.2
      case true =>
        rw [hR] at ha3
        go_wp2
        go_ret
        exact ⟨rfl, HF.out.2.2.2.1⟩
      rw [hR] at ha3
      by_cases hT : (nthT l u).1 = p
      · have z1 : ((nthT l u).1 == p) = true := by simp [hT]
        go_wp2
        go_ret
        exact ⟨rfl, HF.out.2.2.2.1⟩
      have z1 : ((nthT l u).1 == p) = false := by simp [hT]
      have HT := Lib.hid (show _ ∧ _ from ⟨hT, hR⟩)
      clear hT hR
      go_wp2_with fail
      refine (tinsert_any _ b off k cap l p _ _ false _ (HM.out.1.grown HF.out.2.2.2.1) (by omega) hlc hcm hnc).mono ?_; rintro e w3 ⟨⟨A, R, hI, hX⟩, hb⟩
      have hB3 := below_after HF.out.2.2.2.1 hb HF.out.2.2.2.1.size
      clear hb
      rcases hX with ⟨hno, rfl⟩ | ⟨hyes, v, rfl, hO⟩
      · have hd := split_no HMap.out.1 hul HF.out.2.2.1 HF.out.2.1 HT.out.1 HT.out.2 hI hno
        rw [HMap.out.2] at hd
        clear hno hI
        by_cases d1 : p < 0
        · go_wp2
          go_ret
          exact ⟨rfl, hB3⟩
        by_cases d2 : 16777216 < p
        · go_wp2
          go_ret
          exact ⟨rfl, hB3⟩
        obtain rfl : k = 64 := by omega
        go_wp2
        go_ret
        exact ⟨rfl, hB3⟩
      · have hsp := fun h => split_yes HMap.out.1 hul HF.out.2.2.1 HF.out.2.1 HT.out.1 HT.out.2 hI hyes (q := q) h
        generalize insX l (p, (nthT l u).2.1, (nthT l u).2.2.1, false) A R = X at *
        obtain ⟨a5, b5, c5, rfl, hT5, hb5, _⟩ := hO.ts
        have HO := Lib.hid (show _ ∧ _ ∧ _ ∧ _ from ⟨hT5, hb5, hyes, hsp⟩)
        have hXl := hyes.2.1
        clear hO hT5 hb5 hyes hsp hI
        go_wp2_with fail
        refine (tsample_any _ b off k cap l q _ (HM.out.1.grown hB3) hn (blk_has HM.out.2 hB3)).mono ?_; rintro e w4 ⟨rfl, hb4⟩
        have hB4 := below_after hB3 hb4 hB3.size
        go_wp2_with fail
        refine (tsample_any a5 b5 0 X.length c5 X q _ (HO.out.1.grown hb4) (by omega) (blk_has HO.out.2.1 hb4)).mono ?_; rintro e w5 ⟨rfl, hb5⟩
        have hB5 := below_after hB4 hb5 hB4.size
        clear hb4 hb5 hB4 hB3
        by_cases g1 : 0 ≤ q ∧ q ≤ 16777216
        case neg =>
          obtain ⟨x1, x2⟩ := s_arg HMap.out.1 g1
          obtain ⟨y1, y2⟩ := s_arg HO.out.2.2.1 g1
          rw [x1, x2, y1, y2]
          clear x1 x2 y1 y2
          go_wp2
          go_ret
          exact ⟨rfl, hB5⟩
        obtain ⟨s1, s2⟩ := HO.out.2.2.2 g1.1
        by_cases g2 : smp l q ≤ 1099511627776
        case neg =>
          obtain ⟨x1, x2⟩ := s_big HMap.out.1 g1 (show 1099511627776 < smp l q by omega)
          rw [x1, x2]
          clear x1 x2 s1 s2 g2
          generalize sV X q = V
          generalize sE X q = E
          cases hE : ((70 : Int) == E)
          · go_wp2
            go_ret
            exact ⟨rfl, hB5⟩
          · go_wp2
            go_ret
            exact ⟨rfl, hB5⟩
        obtain ⟨x1, x2⟩ := s_ok HMap.out.1 g1 g2
        obtain ⟨y1, y2⟩ := s_ok HO.out.2.2.1 g1 (show smp X q ≤ 1099511627776 by omega)
        have n1 := smp_nn HMap.out.1 g1.1
        have n2 := smp_nn HO.out.2.2.1 g1.1
        rw [x1, x2, y1, y2]
        clear x1 x2 y1 y2
        generalize smp X q = V at *
        generalize smp l q = U at *
        have z3 : decide (V ≤ U) = true := decide_eq_true s1
        have z4 : IntKind.i64.wrap (U - V) = U - V := wrap_id (by omega)
        have z5 : decide (U - V ≤ 1) = true := decide_eq_true (by omega)
        go_wp2
        go_ret
        exact ⟨rfl, hB5⟩
end Go.Proofs.Ytcgndcapdodhlaa
