/- The reference's Of, Value of curves (layer 11). -/
import Derived.Test.YtmblkmllamccnaaCrvRCheck
import Derived.Test.YtmblkmllamccnaaCrvValues
namespace Go.Proofs.Ytmblkmllamccnaa
open Go.ChangeShapes Go.WideShapes Go.ChangeAt Go.RowKit Go.Shelf

theorem clip_in {x : Int} (h1 : -2147483648 ≤ x) (h2 : x ≤ 2147483647) : clip x = x := by unfold clip; omega
theorem line_zero {a b d : Int} (h1 : -2147483648 ≤ a) (h2 : a ≤ 2147483647) : lineV a b 0 d = a := by unfold lineV; rw [clip_in h1 h2]; simp
theorem bend_zero {a b d wa wb : Int} (h1 : -2147483648 ≤ a) (h2 : a ≤ 2147483647) (hd : 1 ≤ d) (hw : 1 ≤ wa) : bendV a b 0 d wa wb = a := by
  unfold bendV
  rw [clip_in h1 h2]
  have : 0 < wa * d := Int.mul_pos (by omega) (by omega)
  simp only [Int.sub_zero, Int.mul_zero, Int.add_zero]
  rw [Int.mul_ediv_cancel _ (by omega)]
theorem seg_zero {most : Int} {k m : Kt} (h : okK most k) (hd : k.1 < m.1) : segV k m k.1 = k.2.1 := by
  unfold segV
  rw [Int.sub_self]
  split
  · rfl
  · split
    · exact line_zero h.2.2.1 h.2.2.2.1
    · exact bend_zero h.2.2.1 h.2.2.2.1 (by omega) (h.2.2.2.2.2.2.1 (by have := h.2.2.2.2.1; have := h.2.2.2.2.2.1; omega)).1
theorem cnt_succ (l : List Kt) (at' : Int) (k : Nat) : cnt l at' (k + 1) = if (nthK l k).1 ≤ at' then k + 1 else cnt l at' k := rfl

theorem rline_same (a b num den : Int) (w : World) (h : 1 ≤ den ∧ den ≤ 16777216 ∧ 0 ≤ num ∧ num ≤ den) :
    Calls Try.prog 55 #[.int .i64 a, .int .i64 b, .int .i64 num, .int .i64 den] w fun e w' => e = .returned (.tuple #[.int .i64 (lineV a b num den), .int .i64 0]) ∧ w' = w := by
  refine (rline_any a b num den w (by omega) (by omega)).mono ?_
  rintro e w' ⟨rfl, rfl⟩
  exact ⟨by rw [if_pos h], rfl⟩
theorem rbend_same (a b num den wa wb : Int) (w : World) (h : 1 ≤ den ∧ den ≤ 16777216 ∧ 0 ≤ num ∧ num ≤ den ∧ 1 ≤ wa ∧ wa ≤ 16 ∧ 1 ≤ wb ∧ wb ≤ 16) :
    Calls Try.prog 56 #[.int .i64 a, .int .i64 b, .int .i64 num, .int .i64 den, .int .i64 wa, .int .i64 wb] w fun e w' => e = .returned (.tuple #[.int .i64 (bendV a b num den wa wb), .int .i64 0]) ∧ w' = w := by
  refine (rbend_any a b num den wa wb w (by omega) (by omega)).mono ?_
  rintro e w' ⟨rfl, rfl⟩
  exact ⟨by rw [if_pos h], rfl⟩
theorem valP_low {l : List Kt} {at' : Int} {P k : Nat} (hch : Curve l) (hl : l.length = k) (hk : 0 < k) (hP : P ≤ k) (h1 : ∀ j, j < P → (nthK l j).1 ≤ at') (h : at' ≤ (nthK l (P - 1)).1) : valP l at' P = (nthK l (P - 1)).2.1 := by
  unfold valP
  rw [if_neg (by omega)]
  by_cases e0 : P = 0
  · subst e0; rw [if_pos rfl]
  · rw [if_neg e0]
    by_cases e1 : P = l.length
    · rw [if_pos e1]
    · rw [if_neg e1]
      have e : at' = (nthK l (P - 1)).1 := by have := h1 (P - 1) (by omega); omega
      have hlt := (hch.1.2 P (by omega)).2 (by omega)
      rw [e]
      exact seg_zero (hch.1.2 (P - 1) (by omega)).1 hlt
theorem valP_pos {l : List Kt} {at' : Int} {P k : Nat} (hk : 0 < k) (h2 : ∀ j, P ≤ j → j < k → at' < (nthK l j).1) (h : ¬ at' ≤ (nthK l (P - 1)).1) : 0 < P := by
  rcases Nat.eq_zero_or_pos P with e | e
  · subst e; have := h2 0 (by omega) hk; simp at h; omega
  · exact e
theorem valP_last {l : List Kt} {at' : Int} {P k : Nat} (hl : l.length = k) (h0 : 0 < P) (h : P = k) : valP l at' P = (nthK l (P - 1)).2.1 := by
  unfold valP
  rw [if_neg (by omega), if_neg (by omega), if_pos (by omega)]
theorem valP_seg {l : List Kt} {at' : Int} {P k : Nat} (hl : l.length = k) (h0 : 0 < P) (h : P < k) : valP l at' P = segV (nthK l (P - 1)) (nthK l P) at' := by
  unfold valP
  rw [if_neg (by omega), if_neg (by omega), if_neg (by omega)]

set_option maxRecDepth 100000 in
set_option maxHeartbeats 8000000 in
theorem rof_any (a : Option Addr) (b off n cap : Nat) (l : List Kt) (at' : Int) (w : World) (h : Ks w a n b off l) (hch : Curve l) :
    Calls Try.prog 46 #[.slice a n cap, .int .i64 at'] w fun e w' => e = .returned (.int .i64 (valC l at')) ∧ Below w.heap.size w w' := by
  have hl := h.1
  have hn : n ≤ 1024 := by rw [← hl]; exact hch.1.1
  have HK := Lib.hid (show _ ∧ _ from ⟨h, hch⟩)
  clear h hch
  by_cases hn0 : n = 0
  · subst hn0
    have e : valC l at' = 0 := if_pos hl
    rw [e]
    clear e
    go_enter Try.func46, Try.ntmps46
    go_wp2
    go_ret
    exact ⟨rfl, Below.refl _ _⟩
  obtain ⟨rfl, hbw⟩ := HK.out.1.2.1 (by omega)
  have z0 : ((n : Int) == 0) = false := by simp; omega
  go_enter Try.func46, Try.ntmps46
  go_wp2
  go_loopw [5, 6] (fun kk i wr => ∃ k : Nat, k ≤ n ∧ i = .int .i64 k ∧ kk = .int .i64 ((cnt l at' k - 1 : Nat) : Int) ∧ Below w.heap.size w wr) (fun _ i _ => n - (intOf i).toNat)
  case atStart => exact ⟨0, by omega, rfl, rfl, Below.refl _ _⟩
  case round =>
    obtain ⟨k, hk, rfl, rfl, hB⟩ := hrel
    by_cases hlt : k < n
    · have i2 : (k : Int) < (n : Int) := by omega
      obtain ⟨c0, _, _, _, _⟩ := (HK.out.1.grown hB).2.2 k hlt
      have uk : IntKind.i64.wrap ((k : Int) + 1) = (k : Int) + 1 := wrap_id (by omega)
      have hs := cnt_succ l at' k
      by_cases q1 : (nthK l k).1 ≤ at'
      · rw [if_pos q1] at hs
        have HS := Lib.hid hs
        clear hs
        go_wp2
        go_roundw
        case rel => exact ⟨k + 1, by omega, by go_num, by rw [HS.out]; rfl, hB⟩
        case measure => simp [intOf] <;> omega
      · rw [if_neg q1] at hs
        have HS := Lib.hid hs
        have q2 : decide ((nthK l k).1 ≤ at') = false := decide_eq_false q1
        clear hs
        go_wp2
        go_roundw
        case rel => exact ⟨k + 1, by omega, by go_num, by rw [HS.out], hB⟩
        case measure => simp [intOf] <;> omega
    · obtain rfl : k = n := by omega
      have hsp := cnt_sp HK.out.2.1 at' k (by omega)
      have hP := cnt_le l at' k
      have EV := Lib.hid (show valC l at' = valP l at' (cnt l at' k) by unfold valC; rw [hl])
      generalize cnt l at' k = P at *
      obtain ⟨p, hp⟩ : ∃ p : Nat, p = P - 1 := ⟨_, rfl⟩
      rw [← hp]
      have ipn : p < k := by omega
      have ip : (p : Int) < (k : Int) := by omega
      obtain ⟨d0, d1, d2, d3, d4⟩ := (HK.out.1.grown hB).2.2 p ipn
      have ukn : IntKind.i64.wrap ((k : Int) - 1) = (k : Int) - 1 := wrap_id (by omega)
      have HSP := Lib.hid hsp
      have HP := Lib.hid hp
      clear hsp hp
      have hkp : 0 < k := by omega
      by_cases q1 : at' ≤ (nthK l p).1
      · have e := valP_low HK.out.2 hl hkp hP HSP.out.1 (by rw [← HP.out]; exact q1)
        rw [← HP.out] at e
        have E := Lib.hid (EV.out.trans e)
        have d1' : decide (at' ≤ (nthK l p).1) = true := decide_eq_true q1
        clear e
        go_wp2
        go_ret
        exact ⟨by rw [E.out]; rfl, hB.alloc hB.size _⟩
      have d1' : decide (at' ≤ (nthK l p).1) = false := decide_eq_false q1
      have hP0 := valP_pos hkp HSP.out.2 (by rw [← HP.out]; exact q1)
      by_cases q2 : P = k
      · have e := valP_last (at' := at') hl hP0 q2
        rw [← HP.out] at e
        have E := Lib.hid (EV.out.trans e)
        have z2 : ((p : Int) == (k : Int) - 1) = true := by have := HP.out; simp; omega
        clear e q2
        go_wp2
        go_ret
        exact ⟨by rw [E.out]; rfl, hB.alloc hB.size _⟩
      have z2 : ((p : Int) == (k : Int) - 1) = false := by have := HP.out; simp; omega
      have e := valP_seg (at' := at') hl hP0 (by omega)
      have eP : P = p + 1 := by have := HP.out; omega
      have E := Lib.hid (show valC l at' = segV (nthK l p) (nthK l (p + 1)) at' by rw [EV.out, e, ← HP.out, eP])
      clear eP
      have okp := (HK.out.2.1.2 p (by omega)).1
      have iqn : p + 1 < k := by have := HP.out; omega
      have iq : (p : Int) + 1 < (k : Int) := by omega
      have okq := (HK.out.2.1.2 (p + 1) (by omega)).1
      have hgap := HK.out.2.2 p (by omega)
      have hat2 := HSP.out.2 (p + 1) (by have := HP.out; omega) iqn
      obtain ⟨f0, f1, _, _, _⟩ := (HK.out.1.grown hB).2.2 (p + 1) iqn
      clear e q2
      generalize hx : nthK l p = x at *
      generalize hy : nthK l (p + 1) = y at *
      obtain ⟨kA, kV, kS, kW, kX⟩ := x
      obtain ⟨mA, mV, mS, mW, mX⟩ := y
      unfold okK at okp okq
      dsimp only at d0 d1 d2 d3 d4 f0 f1 okp okq hgap hat2 q1 d1' ⊢
      have g1 := okp.1; have g2 := okp.2.1; have g3 := okq.1; have g4 := okq.2.1
      have hSs : kS = 1 ∨ kS = 2 ∨ kS = 3 := by omega
      have HO := Lib.hid (show _ ∧ _ ∧ _ from ⟨okp, okq, hgap⟩)
      have HX := Lib.hid (show _ ∧ _ from ⟨hx, hy⟩)
      clear okp okq hgap hx hy
      have u1 : IntKind.i64.wrap (at' - kA) = at' - kA := wrap_id (by omega)
      have u2 : IntKind.i64.wrap (mA - kA) = mA - kA := wrap_id (by omega)
      have u3 : IntKind.i64.wrap ((p : Int) + 1) = (p : Int) + 1 := wrap_id (by omega)
      rcases hSs with hS | hS | hS
      · subst hS
        go_wp2
        go_ret
        exact ⟨by rw [E.out, show segV (kA, kV, 1, kW, kX) (mA, mV, mS, mW, mX) at' = kV from if_pos rfl]; rfl, hB.alloc hB.size _⟩
      · subst hS
        have hq : 1 ≤ mA - kA ∧ mA - kA ≤ 16777216 ∧ 0 ≤ at' - kA ∧ at' - kA ≤ mA - kA := ⟨by omega, HO.out.2.2 (by decide), by omega, by omega⟩
        go_wp2
        have n1 := blk_new wr (.cells #[.int .i64 kA, .int .i64 kV, .int .i64 2, .int .i64 kW, .int .i64 kX] 52)
        have f0' := cell_alloc_keep f0 (.cells #[.int .i64 kA, .int .i64 kV, .int .i64 2, .int .i64 kW, .int .i64 kX] 52)
        have f1' := cell_alloc_keep f1 (.cells #[.int .i64 kA, .int .i64 kV, .int .i64 2, .int .i64 kW, .int .i64 kX] 52)
        have HB5 := Lib.hid (hB.alloc hB.size (.cells #[.int .i64 kA, .int .i64 kV, .int .i64 2, .int .i64 kW, .int .i64 kX] 52))
        clear f0 f1
        generalize wr.alloc (.cells #[.int .i64 kA, .int .i64 kV, .int .i64 2, .int .i64 kW, .int .i64 kX] 52) = W at *
        have x0 := blk_cell n1 0; have x1 := blk_cell n1 1; have x2 := blk_cell n1 2; have x3 := blk_cell n1 3; have x4 := blk_cell n1 4
        simp at x0 x1 x2 x3 x4
        clear n1
        go_quiet (fail)
        go_wp2
        have HCALL := Lib.hid hq
        clear hq
        go_quiet ((go_at_call 55; first | exact Calls.quiet_of_same (rline_same _ _ _ _ _ HCALL.out) | exact quiet_add_same (rline_same _ _ _ _ _ HCALL.out)))
        go_wp2
        go_ret
        exact ⟨by rw [E.out, show segV (kA, kV, 2, kW, kX) (mA, mV, mS, mW, mX) at' = lineV kV mV (at' - kA) (mA - kA) from (if_neg (show ¬ (2 : Int) = 1 by decide)).trans (if_pos rfl)]; rfl, below_drewN (below_drewN HB5.out _) _⟩
      · subst hS
        have hw := HO.out.1.2.2.2.2.2.2.1 rfl
        have hq : 1 ≤ mA - kA ∧ mA - kA ≤ 16777216 ∧ 0 ≤ at' - kA ∧ at' - kA ≤ mA - kA ∧ 1 ≤ kW ∧ kW ≤ 16 ∧ 1 ≤ kX ∧ kX ≤ 16 := ⟨by omega, HO.out.2.2 (by decide), by omega, by omega, hw⟩
        go_wp2
        have n1 := blk_new wr (.cells #[.int .i64 kA, .int .i64 kV, .int .i64 3, .int .i64 kW, .int .i64 kX] 52)
        have f0' := cell_alloc_keep f0 (.cells #[.int .i64 kA, .int .i64 kV, .int .i64 3, .int .i64 kW, .int .i64 kX] 52)
        have f1' := cell_alloc_keep f1 (.cells #[.int .i64 kA, .int .i64 kV, .int .i64 3, .int .i64 kW, .int .i64 kX] 52)
        have HB5 := Lib.hid (hB.alloc hB.size (.cells #[.int .i64 kA, .int .i64 kV, .int .i64 3, .int .i64 kW, .int .i64 kX] 52))
        clear f0 f1
        generalize wr.alloc (.cells #[.int .i64 kA, .int .i64 kV, .int .i64 3, .int .i64 kW, .int .i64 kX] 52) = W at *
        have x0 := blk_cell n1 0; have x1 := blk_cell n1 1; have x2 := blk_cell n1 2; have x3 := blk_cell n1 3; have x4 := blk_cell n1 4
        simp at x0 x1 x2 x3 x4
        clear n1
        go_quiet (fail)
        go_wp2
        have HCALL := Lib.hid hq
        clear hq
        go_quiet ((go_at_call 56; first | exact Calls.quiet_of_same (rbend_same _ _ _ _ _ _ _ HCALL.out) | exact quiet_add_same (rbend_same _ _ _ _ _ _ _ HCALL.out)))
        go_wp2
        go_ret
        exact ⟨by rw [E.out, show segV (kA, kV, 3, kW, kX) (mA, mV, mS, mW, mX) at' = bendV kV mV (at' - kA) (mA - kA) kW kX from (if_neg (show ¬ (3 : Int) = 1 by decide)).trans (if_neg (show ¬ (3 : Int) = 2 by decide))]; rfl, below_drewN (below_drewN HB5.out _) _⟩
end Go.Proofs.Ytmblkmllamccnaa
