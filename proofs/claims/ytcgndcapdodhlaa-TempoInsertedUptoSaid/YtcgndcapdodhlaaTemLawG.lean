/- The walk of TempoInserted (layer 9). -/
import Derived.Test.YtcgndcapdodhlaaTemLawB
import Derived.Test.YtcgndcapdodhlaaTemInsM
import Derived.Test.YtcgndcapdodhlaaTemFour
namespace Go.Proofs.Ytcgndcapdodhlaa
open Go.ChangeShapes Go.WideShapes Go.ChangeAt Go.RowKit

/-- The last point before tick t, of the first k. -/
def bef (l : List Tp) (t : Int) : Nat → Int
  | 0 => -1
  | k + 1 => if (nthT l k).1 < t then k else bef l t k
theorem bef_is {l : List Tp} {t : Int} {A : Nat} : ∀ n, (∀ j, j < A → (nthT l j).1 < t) → (∀ j, A ≤ j → j < n → ¬ (nthT l j).1 < t) → A ≤ n → bef l t n = (A : Int) - 1 := by
  intro n
  induction n with
  | zero => intro _ _ h; obtain rfl : A = 0 := by omega
            rfl
  | succ n ih =>
    intro h1 h2 h3
    unfold bef
    by_cases e : A = n + 1
    · rw [if_pos (h1 n (by omega))]; omega
    · rw [if_neg (h2 n (by omega) (by omega))]
      exact ih h1 (fun j a b => h2 j a (by omega)) (by omega)
theorem bef_lt (l : List Tp) (t : Int) : ∀ n : Nat, -1 ≤ bef l t n ∧ bef l t n < n := by
  intro n
  induction n with
  | zero => unfold bef; omega
  | succ n ih => unfold bef; split <;> omega

theorem s_eq {l x : List Tp} (h : Map l) (hx : Map x) {q : Int} (e : 0 ≤ q → smp x q = smp l q) : sE x q = sE l q ∧ sV x q = sV l q := by
  by_cases g : 0 ≤ q ∧ q ≤ 16777216
  · have e := e g.1
    by_cases g2 : smp l q ≤ 1099511627776
    · obtain ⟨a, b⟩ := s_ok h g g2
      obtain ⟨c, d⟩ := s_ok hx g (by rw [e]; exact g2)
      rw [a, b, c, d, e]; exact ⟨rfl, rfl⟩
    · obtain ⟨a, b⟩ := s_big h g (show 1099511627776 < smp l q by omega)
      obtain ⟨c, d⟩ := s_big hx g (show 1099511627776 < smp x q by omega)
      rw [a, b, c, d]; exact ⟨rfl, rfl⟩
  · obtain ⟨a, b⟩ := s_arg h g
    obtain ⟨c, d⟩ := s_arg hx g
    rw [a, b, c, d]; exact ⟨rfl, rfl⟩

set_option maxRecDepth 100000 in
set_option maxHeartbeats 8000000 in
theorem tempoInserted_walk (a : Option Addr) (b off len cap : Nat) (l : List Tp) (t0 t1 t2 : Int) (t3 : Bool) (q : Int) (w : World) (hM : Ts w a len b off l) (hn : len ≤ 1050000) (hb : 0 < len → ∃ c tb fr, w.heap[b]? = some (.cells c tb fr)) (hlc : len ≤ cap) (hcm : cap ≤ 9223372036854775807) (hnc : a = none → cap = 0) :
    Calls Try.prog 8 #[.slice a len cap, .agg #[.int .i64 t0, .int .i64 t1, .int .i64 t2, .bool t3], .int .i64 q] w fun e w' => e = .returned (.bool true) ∧ Below w.heap.size w w' := by
  have HM := Lib.hid (show _ ∧ _ ∧ _ from ⟨hM, hb, hM.1⟩)
  clear hb hM
  go_enter Try.func8, Try.ntmps8
  go_wp2_with fail
  refine (sane_any _).mono ?_; rintro e w1 ⟨rfl, hB0⟩
  have k0 := blk_below (blk_new w (.cells #[.int .i64 t0, .int .i64 t1, .int .i64 t2, .bool t3] 30)) hB0 (by simp)
  have hB := below_after ((Below.refl w.heap.size w).alloc (Nat.le_refl _) _) hB0 (by simp)
  have d0 := blk_cell k0 0; have d1 := blk_cell k0 1; have d2 := blk_cell k0 2; have d3 := blk_cell k0 3
  simp at d0 d1 d2 d3
  have HK := Lib.hid (show _ ∧ _ from ⟨k0, hB⟩)
  clear k0 hB hB0
  go_wp2_with fail
  refine (tinsert_any a b off len cap l t0 t1 t2 t3 _ (HM.out.1.grown HK.out.2) hn hlc hcm hnc).mono ?_; rintro e w2 ⟨⟨A, R, hI, hX⟩, hb⟩
  have hB2 := below_after HK.out.2 hb HK.out.2.size
  have k2 := blk_below HK.out.1 hb (Array.getElem?_eq_some_iff.1 HK.out.1).1
  clear d0 d1 d2 d3 hb
  rcases hX with ⟨hno, rfl⟩ | ⟨hyes, v, rfl, hO⟩
  · clear hno
    go_wp2
    go_ret
    exact ⟨rfl, hB2⟩
  go_wp2_with fail
  refine (tcheck_any a len cap b off l _ (HM.out.1.grown hB2) (by omega)).mono ?_; rintro e w3 ⟨rfl, hb⟩
  have hB3 := below_after hB2 hb hB2.size
  have k3 := blk_below k2 hb (Array.getElem?_eq_some_iff.1 k2).1
  replace hO := hO.below hb (Nat.le_refl _)
  clear hb hB2 k2
  by_cases hm : Map l
  case neg =>
    rw [chk_no hm]
    clear hm
    go_wp2
    go_ret
    exact ⟨rfl, hB3⟩
  rw [chk_yes hm]
  have hl1 : 1 ≤ len := by rw [← HM.out.2.2]; exact hm.1
  have hl64 : len ≤ 64 := by rw [← HM.out.2.2]; exact hm.2.1
  obtain ⟨rfl, hbw⟩ := HM.out.1.2.1 (by omega)
  obtain ⟨a5, b5, c5, rfl, hT5, hb5, _⟩ := hO.ts
  have hXl := hyes.2.1
  have hsame := fun (h0 : 0 ≤ q) (hu : q ≤ t0) (hr : 0 < A → (nthT l (A - 1)).2.2.2 = true → q ≤ (nthT l (A - 1)).1) => ins_same hm (t := (t0, t1, t2, t3)) hI hyes h0 hu hr
  generalize insX l (t0, t1, t2, t3) A R = X at *
  have HSM := Lib.hid hsame
  clear hsame
  have HI := Lib.hid (show _ ∧ _ ∧ _ ∧ _ ∧ _ from ⟨hm, hI, hyes, hT5, hb5⟩)
  have HB3 := Lib.hid (show _ ∧ _ from ⟨hB3, k3⟩)
  have d0 := blk_cell k3 0
  simp at d0
  clear hm hI hyes hO hT5 hb5 hB3 k3
  go_wp2
  go_loopw [9, 10] (fun before i wr => ∃ k : Nat, k ≤ len ∧ i = .int .i64 k ∧ before = .int .i64 (bef l t0 k) ∧ ∃ n, wr = w3.drewN n) (fun _ i _ => len - (intOf i).toNat)
  case atStart => exact ⟨0, by omega, rfl, rfl, 0, rfl⟩
  case round =>
    obtain ⟨k, hk, rfl, rfl, n, rfl⟩ := hrel
    by_cases hlt : k < len
    · have i2 : (k : Int) < (len : Int) := by omega
      obtain ⟨c0, c1, c2, c3⟩ := (HM.out.1.grown HB3.out.1).2.2 k hlt
      have uk : IntKind.i64.wrap ((k : Int) + 1) = (k : Int) + 1 := wrap_id (by omega)
      by_cases q1 : (nthT l k).1 < t0
      · have e : bef l t0 (k + 1) = k := if_pos q1
        have HE := Lib.hid e
        clear e
        go_wp2
        go_quiet (fail)
        go_wp2
        go_roundw
        case rel => exact ⟨k + 1, by omega, by go_num, by rw [HE.out], _, rfl⟩
        case measure => simp [intOf] <;> omega
      · have e : bef l t0 (k + 1) = bef l t0 k := if_neg q1
        have HE := Lib.hid e
        clear e
        go_wp2
        go_quiet (fail)
        go_wp2
        go_roundw
        case rel => exact ⟨k + 1, by omega, by go_num, by rw [HE.out], _, rfl⟩
        case measure => simp [intOf] <;> omega
    · obtain rfl : k = len := by omega
      have hle := insAt_le HI.out.2.1
      have hlt2 := insAt_lt HI.out.1 HI.out.2.1
      have eb : bef l t0 k = (A : Int) - 1 := bef_is k hlt2.1 (fun j a b => by
        rw [← HM.out.2.2] at b
        by_cases e : j = A
        · subst e; have := hlt2.2 b; omega
        · have := tick_lt HI.out.1 (j := A) (k := j) (by omega) b; have := hlt2.2 (by omega); omega) (by have := HM.out.2.2; omega)
      rw [eb]
      have hAl : A ≤ k := by have := HM.out.2.2; omega
      clear eb hle hlt2
      by_cases hA0 : A = 0
      · subst hA0
        by_cases hq : t0 < q
        · go_wp2
          go_ret
          exact ⟨rfl, below_drewN HB3.out.1⟩
        have hq2 : ¬ t0 < q := hq
        have HS := Lib.hid (s_eq HI.out.1 HI.out.2.2.1 (q := q) fun h => HSM.out h (by omega) (fun h => by omega))
        go_wp2_with fail
        refine (tsample_any _ b off k cap l q _ (HM.out.1.grown (below_drewN HB3.out.1)) (by omega) (blk_has HM.out.2.1 (below_drewN HB3.out.1))).mono ?_; rintro e w4 ⟨rfl, hb4⟩
        have hB4 := below_after (below_drewN HB3.out.1) hb4 HB3.out.1.size
        have hT5' := HI.out.2.2.2.1.grown (Below.trans (below_drewN (Below.refl _ w3)) hb4)
        have hb5' := blk_has HI.out.2.2.2.2 (Below.trans (below_drewN (Below.refl _ w3)) hb4)
        clear hb4
        go_wp2_with fail
        refine (tsample_any a5 b5 0 X.length c5 X q _ hT5' (by omega) hb5').mono ?_; rintro e w5 ⟨rfl, hb5⟩
        have hB5 := below_after hB4 hb5 hB4.size
        rw [HS.out.1, HS.out.2]
        clear hb5 hB4 hT5' hb5' HS
        generalize sE l q = E
        generalize sV l q = V
        go_wp2
        go_ret
        exact ⟨rfl, hB5⟩
      obtain ⟨i, rfl⟩ : ∃ i, A = i + 1 := ⟨A - 1, by omega⟩
      have ei : ((i + 1 : Nat) : Int) - 1 = (i : Int) := by omega
      rw [ei]
      obtain ⟨c0, c1, c2, c3⟩ := (HM.out.1.grown HB3.out.1).2.2 i (by omega)
      have i2 : (i : Int) < (k : Int) := by omega
      have i3 : i < k := by omega
      clear ei
      cases hR : (nthT l i).2.2.2
      · rw [hR] at c3
        have HR := Lib.hid hR
        clear hR
        by_cases hq : t0 < q
        · go_wp2
          go_ret
          exact ⟨rfl, below_drewN HB3.out.1⟩
        have HS := Lib.hid (s_eq HI.out.1 HI.out.2.2.1 (q := q) fun h => HSM.out h (by omega) (fun _ h => by rw [show i + 1 - 1 = i by omega, HR.out] at h; cases h))
        go_wp2_with fail
        refine (tsample_any _ b off k cap l q _ (HM.out.1.grown (below_drewN HB3.out.1)) (by omega) (blk_has HM.out.2.1 (below_drewN HB3.out.1))).mono ?_; rintro e w4 ⟨rfl, hb4⟩
        have hB4 := below_after (below_drewN HB3.out.1) hb4 HB3.out.1.size
        have hT5' := HI.out.2.2.2.1.grown (Below.trans (below_drewN (Below.refl _ w3)) hb4)
        have hb5' := blk_has HI.out.2.2.2.2 (Below.trans (below_drewN (Below.refl _ w3)) hb4)
        clear hb4
        go_wp2_with fail
        refine (tsample_any a5 b5 0 X.length c5 X q _ hT5' (by omega) hb5').mono ?_; rintro e w5 ⟨rfl, hb5⟩
        have hB5 := below_after hB4 hb5 hB4.size
        rw [HS.out.1, HS.out.2]
        clear hb5 hB4 hT5' hb5' HS
        generalize sE l q = E
        generalize sV l q = V
        go_wp2
        go_ret
        exact ⟨rfl, hB5⟩
      · rw [hR] at c3
        have hti : (nthT l i).1 < t0 := (insAt_lt HI.out.1 HI.out.2.1).1 i (by omega)
        clear hR
        by_cases hq : (nthT l i).1 < q
        · go_wp2
          go_ret
          exact ⟨rfl, below_drewN HB3.out.1⟩
        have HS := Lib.hid (s_eq HI.out.1 HI.out.2.2.1 (q := q) fun h => HSM.out h (by omega) (fun _ _ => by rw [show i + 1 - 1 = i by omega]; omega))
        go_wp2_with fail
        refine (tsample_any _ b off k cap l q _ (HM.out.1.grown (below_drewN HB3.out.1)) (by omega) (blk_has HM.out.2.1 (below_drewN HB3.out.1))).mono ?_; rintro e w4 ⟨rfl, hb4⟩
        have hB4 := below_after (below_drewN HB3.out.1) hb4 HB3.out.1.size
        have hT5' := HI.out.2.2.2.1.grown (Below.trans (below_drewN (Below.refl _ w3)) hb4)
        have hb5' := blk_has HI.out.2.2.2.2 (Below.trans (below_drewN (Below.refl _ w3)) hb4)
        clear hb4
        go_wp2_with fail
        refine (tsample_any a5 b5 0 X.length c5 X q _ hT5' (by omega) hb5').mono ?_; rintro e w5 ⟨rfl, hb5⟩
        have hB5 := below_after hB4 hb5 hB4.size
        rw [HS.out.1, HS.out.2]
        clear hb5 hB4 hT5' hb5' HS
        generalize sE l q = E
        generalize sV l q = V
        go_wp2
        go_ret
        exact ⟨rfl, hB5⟩
end Go.Proofs.Ytcgndcapdodhlaa
