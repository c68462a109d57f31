/- The contract of curves.value (layer 11). -/
import Derived.Test.YtmblkmllamccnaaCrvCheck
import Derived.Test.YtmblkmllamccnaaHeld
namespace Go.Proofs.Ytmblkmllamccnaa
open Go.ChangeShapes Go.WideShapes Go.ChangeAt Go.RowKit Go.Shelf

def encKv (m : Kt) : Value := .agg #[.int .i64 m.1, .int .i64 m.2.1, .int .i64 m.2.2.1, .int .i64 m.2.2.2.1, .int .i64 m.2.2.2.2]
theorem hold_ok (k m : Kt) (at' : Int) (w : World) : Calls Try.prog 47 #[encKv k, encKv m, .int .i64 at'] w fun e w' => e = .returned (.int .i64 k.2.1) ∧ Below w.heap.size w w' := by
  unfold encKv
  go_enter Try.func47, Try.ntmps47
  go_wp2
  go_ret
  exact ⟨rfl, by go_grown⟩
set_option maxHeartbeats 4000000 in
theorem kline_ok (k m : Kt) (at' : Int) (w : World) (h1 : 1 ≤ m.1 - k.1) (h2 : m.1 - k.1 ≤ 16777216) (h3 : 0 ≤ at' - k.1) (h4 : at' ≤ m.1) (b1 : 0 ≤ k.1) (b2 : m.1 ≤ 1099511627776) :
    Calls Try.prog 48 #[encKv k, encKv m, .int .i64 at'] w fun e w' => e = .returned (.int .i64 (lineV k.2.1 m.2.1 (at' - k.1) (m.1 - k.1))) ∧ Below w.heap.size w w' := by
  obtain ⟨kA, kV, kS, kW, kX⟩ := k
  obtain ⟨mA, mV, mS, mW, mX⟩ := m
  unfold encKv
  dsimp only at *
  have u1 : IntKind.i64.wrap (at' - kA) = at' - kA := wrap_id (by omega)
  have u2 : IntKind.i64.wrap (mA - kA) = mA - kA := wrap_id (by omega)
  go_enter Try.func48, Try.ntmps48
  go_wp2_with fail
  refine (line_ok kV mV (at' - kA) (mA - kA) _ h1 h2 h3 (by omega)).mono ?_
  rintro e w1 ⟨rfl, hb⟩
  have hB : Below w.heap.size w w1 := below_after (((Below.refl _ _).alloc (Nat.le_refl _) _).alloc (by simp) _) hb (by simp; omega)
  go_wp2
  go_ret
  exact ⟨rfl, hB⟩
set_option maxHeartbeats 4000000 in
theorem kbend_ok (k m : Kt) (at' : Int) (w : World) (h1 : 1 ≤ m.1 - k.1) (h2 : m.1 - k.1 ≤ 16777216) (h3 : 0 ≤ at' - k.1) (h4 : at' ≤ m.1) (b1 : 0 ≤ k.1) (b2 : m.1 ≤ 1099511627776) (a1 : 1 ≤ k.2.2.2.1) (a2 : k.2.2.2.1 ≤ 16) (a3 : 1 ≤ k.2.2.2.2) (a4 : k.2.2.2.2 ≤ 16) :
    Calls Try.prog 49 #[encKv k, encKv m, .int .i64 at'] w fun e w' => e = .returned (.int .i64 (bendV k.2.1 m.2.1 (at' - k.1) (m.1 - k.1) k.2.2.2.1 k.2.2.2.2)) ∧ Below w.heap.size w w' := by
  obtain ⟨kA, kV, kS, kW, kX⟩ := k
  obtain ⟨mA, mV, mS, mW, mX⟩ := m
  unfold encKv
  dsimp only at *
  have u1 : IntKind.i64.wrap (at' - kA) = at' - kA := wrap_id (by omega)
  have u2 : IntKind.i64.wrap (mA - kA) = mA - kA := wrap_id (by omega)
  go_enter Try.func49, Try.ntmps49
  go_wp2_with fail
  refine (bend_ok kV mV (at' - kA) (mA - kA) kW kX _ h1 h2 h3 (by omega) a1 a2 a3 a4).mono ?_
  rintro e w1 ⟨rfl, hb⟩
  have hB : Below w.heap.size w w1 := below_after (((Below.refl _ _).alloc (Nat.le_refl _) _).alloc (by simp) _) hb (by simp; omega)
  go_wp2
  go_ret
  exact ⟨rfl, hB⟩

/-- How many of the first n knots are at `at'` or before (of knots in order). -/
def cnt (l : List Kt) (at' : Int) : Nat → Nat
  | 0 => 0
  | n + 1 => if (nthK l n).1 ≤ at' then n + 1 else cnt l at' n
theorem cnt_le (l : List Kt) (at' : Int) : ∀ n, cnt l at' n ≤ n := by
  intro n
  induction n with
  | zero => exact Nat.le_refl _
  | succ n ih => unfold cnt; split <;> omega
theorem cnt_is {l : List Kt} {at' : Int} {p : Nat} : ∀ n, (∀ j, j < p → (nthK l j).1 ≤ at') → (∀ j, p ≤ j → j < n → at' < (nthK l j).1) → p ≤ n → cnt l at' n = p := by
  intro n
  induction n with
  | zero => intro _ _ h; unfold cnt; omega
  | succ n ih =>
    intro h1 h2 h3
    unfold cnt
    by_cases e : p = n + 1
    · rw [if_pos (h1 n (by omega))]; omega
    · rw [if_neg (by have := h2 n (by omega) (by omega); omega)]
      exact ih h1 (fun j a b => h2 j a (by omega)) (by omega)
theorem lane_lt {most : Int} {l : List Kt} (h : Lane most l) {j k : Nat} (hjk : j < k) (hk : k < l.length) : (nthK l j).1 < (nthK l k).1 := by
  induction k with
  | zero => omega
  | succ k ih =>
    have a := (h.2 (k + 1) hk).2 (by omega)
    rw [Nat.add_sub_cancel] at a
    by_cases e : j = k
    · subst e; exact a
    · have := ih (by omega) (by omega); omega
theorem cnt_sp {most : Int} {l : List Kt} (h : Lane most l) (at' : Int) : ∀ n, n ≤ l.length → (∀ j, j < cnt l at' n → (nthK l j).1 ≤ at') ∧ (∀ j, cnt l at' n ≤ j → j < n → at' < (nthK l j).1) := by
  intro n
  induction n with
  | zero => intro _; exact ⟨fun j hj => absurd hj (by unfold cnt; omega), fun j _ h => by omega⟩
  | succ n ih =>
    intro hn
    unfold cnt
    by_cases c : (nthK l n).1 ≤ at'
    · rw [if_pos c]
      refine ⟨fun j hj => ?_, fun j a b => by omega⟩
      by_cases e : j = n
      · subst e; exact c
      · have := lane_lt h (j := j) (k := n) (by omega) (by omega); omega
    · rw [if_neg c]
      obtain ⟨a, b⟩ := ih (by omega)
      refine ⟨a, fun j x y => ?_⟩
      by_cases e : j = n
      · subst e; omega
      · exact b j x (by omega)

set_option maxHeartbeats 4000000 in
theorem value1_any (Bm Bp b off len cap : Nat) (l : List Kt) (t : Nat) (at' : Int) (w : World) (ht : t < len) (hM : Ks w (some ⟨b, off, none⟩) len b off l)
    (k1 : w.heap[Bm]? = some (.cells #[.slice (some ⟨b, off, none⟩) len cap] 36 (0, 0))) (k2 : w.heap[Bp]? = some (.cells #[.int .i64 at'] 3 (0, 0))) :
    Calls Try.prog 54 #[.int .i64 t, .pointer (some ⟨Bm, 0, none⟩), .pointer (some ⟨Bp, 0, none⟩)] w fun e w' => e = .returned (.bool (decide (at' < (nthK l t).1))) ∧ Below w.heap.size w w' := by
  have c1 := blk_cell k1 0; have c2 := blk_cell k2 0
  simp at c1 c2
  obtain ⟨c0, _, _, _, _⟩ := hM.2.2 t ht
  have i2 : (t : Int) < (len : Int) := by omega
  clear hM k1 k2
  go_enter Try.func54, Try.ntmps54
  go_wp2
  go_quiet (fail)
  go_wp2
  go_ret
  exact ⟨rfl, below_drewN (Below.refl _ _) _⟩

set_option maxHeartbeats 4000000 in
theorem ksearch_any (Bm Bp b off len cap : Nat) (l : List Kt) (at' : Int) (w : World) (hch : Lane 1099511627776 l) (a : Option Addr) (hM : Ks w a len b off l)
    (k1 : w.heap[Bm]? = some (.cells #[.slice a len cap] 36 (0, 0))) (k2 : w.heap[Bp]? = some (.cells #[.int .i64 at'] 3 (0, 0))) :
    Calls Try.prog 53 #[.int .i64 len, .func (.func 54) #[] #[.pointer (some ⟨Bm, 0, none⟩), .pointer (some ⟨Bp, 0, none⟩)]] w fun e w' => e = .returned (.int .i64 (cnt l at' len)) ∧ Below w.heap.size w w' := by
  have hlen : len ≤ 1024 := by rw [← hM.1]; exact hch.1
  have HH := Lib.hid (show _ ∧ _ ∧ _ ∧ _ from ⟨hch, hM, k1, k2⟩)
  clear hch hM k1 k2
  go_enter Try.func53, Try.ntmps53
  go_wp2
  go_loopw [5, 6] (fun i j wr => ∃ p q : Nat, p ≤ q ∧ q ≤ len ∧ i = .int .i64 p ∧ j = .int .i64 q ∧ (∀ j, j < p → (nthK l j).1 ≤ at') ∧ (∀ j, q ≤ j → j < len → at' < (nthK l j).1) ∧ Below w.heap.size w wr) (fun i j _ => (intOf j).toNat - (intOf i).toNat)
  case atStart => exact ⟨0, len, by omega, by omega, rfl, rfl, fun j h => by omega, fun j h h' => by omega, Below.refl _ _⟩
  case round =>
    obtain ⟨p, q, hpq, hq, rfl, rfl, hp1, hq1, hB⟩ := hrel
    have HF := Lib.hid (show _ ∧ _ from ⟨hp1, hq1⟩)
    clear hp1 hq1
    by_cases hlt : p < q
    · go_wp2_with fail
      obtain ⟨h, hh⟩ : ∃ h : Nat, h = (p + q) / 2 := ⟨_, rfl⟩
      have e : ((p : Int) + (q : Int)) / 2 = (h : Int) := by omega
      have h1 : p ≤ h := by omega
      have h2 : h < q := by omega
      rw [e]
      clear e hh
      obtain ⟨ra, _⟩ := HH.out.2.1.2.1 (by omega)
      refine (value1_any Bm Bp b off len cap l h at' wr (by omega) (by have := HH.out.2.1.grown hB; rw [ra] at this; exact this) (by have := blk_below HH.out.2.2.1 hB (Array.getElem?_eq_some_iff.1 HH.out.2.2.1).1; rw [ra] at this; exact this) (blk_below HH.out.2.2.2 hB (Array.getElem?_eq_some_iff.1 HH.out.2.2.2).1)).mono ?_
      rintro e w4 ⟨rfl, hb4⟩
      replace hB := below_after hB hb4 hB.size
      clear hb4 ra
      by_cases q1 : at' < (nthK l h).1
      · have d : decide (at' < (nthK l h).1) = true := decide_eq_true q1
        rw [d]
        have Q1 := Lib.hid q1
        clear d q1
        go_wp2
        go_roundw
        case rel => exact ⟨p, h, by omega, by omega, rfl, by go_num, HF.out.1, fun j a b => by
          by_cases e : j = h
          · subst e; exact Q1.out
          · have := lane_lt HH.out.1 (j := h) (k := j) (by omega) (by rw [HH.out.2.1.1]; exact b); have := Q1.out; omega, hB⟩
        case measure => simp [intOf]; omega
      · have d : decide (at' < (nthK l h).1) = false := decide_eq_false q1
        rw [d]
        have Q1 := Lib.hid (Int.not_lt.1 q1)
        clear d q1
        go_wp2
        go_roundw
        case rel => exact ⟨h + 1, q, by omega, by omega, by go_num, rfl, fun j a => by
          by_cases e : j = h
          · subst e; exact Q1.out
          · have := lane_lt HH.out.1 (j := j) (k := h) (by omega) (by rw [HH.out.2.1.1]; omega); have := Q1.out; omega, HF.out.2, hB⟩
        case measure => simp [intOf]; omega
    · obtain rfl : p = q := by omega
      have E := Lib.hid (cnt_is len HF.out.1 HF.out.2 hq)
      go_wp2
      go_ret
      exact ⟨by rw [E.out]; rfl, hB⟩
end Go.Proofs.Ytmblkmllamccnaa
