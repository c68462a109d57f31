/- Spans in order (layer 44). -/
import Derived.Test.YthnhnmmabjmjgaaSH
import Derived.Test.YthnhnmmabjmjgaaSD
import Derived.Test.YthnhnmmabjmjgaaGrowT
import Derived.Test.YthnhnmmabjmjgaaWithin
import Derived.Deep.Cut
namespace Go.Proofs.Ythnhnmmabjmjgaa
open Go.ChangeShapes Go.WideShapes Go.ChangeAt Go.RowKit Go.Shelf

def endH (l : List Ht) : Nat → Int
  | 0 => 0
  | k + 1 => (nthH l k).1 + (nthH l k).2.1
def OkH (e : Int) (x : Ht) : Prop := (e ≤ x.1 ∧ x.1 ≤ 1099511627776) ∧ (0 ≤ x.2.2.1 ∧ x.2.2.1 ≤ 1099511627776) ∧ (1 ≤ x.2.1 ∧ x.2.1 ≤ 1099511627776)
instance (e : Int) (x : Ht) : Decidable (OkH e x) := by unfold OkH; exact inferInstance
def OrdTo (l : List Ht) (k : Nat) : Prop := ∀ i, i < k → OkH (endH l i) (nthH l i)
instance (l : List Ht) (k : Nat) : Decidable (OrdTo l k) := by unfold OrdTo; exact inferInstance
theorem ordTo_succ {l : List Ht} {k : Nat} (h : OrdTo l k) (h2 : OkH (endH l k) (nthH l k)) : OrdTo l (k + 1) := fun i hi => by
  by_cases e : i = k
  · subst e; exact h2
  · exact h i (by omega)
theorem endH_in {l : List Ht} {k : Nat} (h : OrdTo l k) : 0 ≤ endH l k ∧ endH l k ≤ 2199023255552 := by
  induction k with
  | zero => exact ⟨Int.le_refl 0, show (0 : Int) ≤ 2199023255552 by decide⟩
  | succ k ih =>
    have h1 := h k (by omega)
    have h2 := ih fun i hi => h i (by omega)
    unfold OkH at h1
    show 0 ≤ (nthH l k).1 + (nthH l k).2.1 ∧ (nthH l k).1 + (nthH l k).2.1 ≤ 2199023255552
    omega
def OrdS (l : List Ht) : Prop := l.length ≤ 65536 ∧ OrdTo l l.length
instance (l : List Ht) : Decidable (OrdS l) := by unfold OrdS; exact inferInstance
theorem ordS_no {l : List Ht} {k : Nat} (hk : k < l.length) (h : ¬ OkH (endH l k) (nthH l k)) : decide (OrdS l) = false := decide_eq_false fun g => h (g.2 k hk)

set_option maxRecDepth 100000 in
set_option maxHeartbeats 4000000 in
theorem ordered_any (a : Option Addr) (n cap b off : Nat) (l : List Ht) (w : World) (h : Hs w a n b off l) (hn : n ≤ 9223372036854775807) :
    Calls Try.prog 26 #[.slice a n cap] w fun e w' => e = .returned (.bool (decide (OrdS l))) ∧ Below w.heap.size w w' := by
  have HM := Lib.hid h
  obtain ⟨hl, ha, -⟩ := h
  by_cases hn2 : 65536 < n
  · have e : decide (OrdS l) = false := decide_eq_false fun g => by have := g.1; omega
    rw [e]
    clear ha hl
    go_enter Try.func26, Try.ntmps26
    go_wp2
    go_ret
    exact ⟨rfl, Below.refl _ _⟩
  have HL := Lib.hid (show _ ∧ _ from ⟨hl, ha⟩); clear hl ha
  go_enter Try.func26, Try.ntmps26
  go_wp2
  go_loopw [3, 11] (fun e i wr => ∃ k : Nat, k ≤ n ∧ i = .int .i64 k ∧ e = .int .i64 (endH l k) ∧ OrdTo l k ∧ Below w.heap.size w wr) (fun _ i _ => n - (intOf i).toNat)
  case atStart => exact ⟨0, Nat.zero_le _, rfl, rfl, fun i hi => by omega, Below.refl _ _⟩
  case round =>
    obtain ⟨k, hk, rfl, rfl, hok, hb⟩ := hrel
    have hei := endH_in hok
    have HK := Lib.hid (show _ ∧ _ from ⟨hok, hb⟩); clear hok hb
    by_cases hlt : k < n
    case neg =>
      obtain rfl : k = n := by omega
      have E0 := Lib.hid (show decide (OrdS l) = true from decide_eq_true ⟨by rw [HL.out.1]; omega, by rw [HL.out.1]; exact HK.out.1⟩)
      go_wp2
      go_ret
      exact ⟨ret_bool E0.out.symm, HK.out.2⟩
    obtain ⟨rfl, hbw⟩ := HL.out.2 (by omega)
    obtain ⟨c0, c1, c2, c3, c4⟩ := (HM.out.grown HK.out.2).2.2 k hlt
    have hb0 := HK.out.2.size
    have hbad : ¬ OkH (endH l k) (nthH l k) → decide (OrdS l) = false := ordS_no (by rw [HL.out.1]; exact hlt)
    have hst : OkH (endH l k) (nthH l k) → OrdTo l (k + 1) ∧ endH l (k + 1) = (nthH l k).1 + (nthH l k).2.1 := fun h => ⟨ordTo_succ HK.out.1 h, rfl⟩
    generalize nthH l k = x at *
    generalize endH l k = e at *
    obtain ⟨x0, x1, x2, x3, x4⟩ := x
    have HX := Lib.hid (show _ ∧ _ from ⟨hbad, hst⟩); clear hbad hst
    dsimp only at c0 c1 c2 c3 c4
    obtain ⟨W2, hW2⟩ : ∃ W2, W2 = wr.alloc (.cells #[.int .i64 x0, .int .i64 x1, .int .i64 x2, .bool x3, .bool x4] 50) := ⟨_, rfl⟩
    have hb2 : Below wr.heap.size wr W2 := by rw [hW2]; exact (Below.refl _ _).alloc (Nat.le_refl _) _
    have hx2 : W2.heap[wr.heap.size]? = some (.cells #[.int .i64 x0, .int .i64 x1, .int .i64 x2, .bool x3, .bool x4] 50 (0, 0)) := by rw [hW2]; exact blk_new _ _
    have hB2 := below_after HK.out.2 hb2 hb0
    have H2 := Lib.hid hB2
    have d0 := blk_cell hx2 0; have d1 := blk_cell hx2 1; have d2 := blk_cell hx2 2
    simp at d0 d1 d2
    clear hb2 hx2 hB2
    by_cases q0 : e ≤ x0 ∧ x0 ≤ 1099511627776
    case neg =>
      have v0 := within_f q0
      have E0 := Lib.hid (HX.out.1 fun h => q0 h.1)
      clear q0 hei
      go_upto_region 7 with fail
      rw [← hW2]
      clear hW2 c0 c1 c2 c3 c4
      go_wp2_with (first | (go_at_call 27; refine (within_any _ _ _ _).mono ?_; rintro e w' ⟨rfl, rfl⟩))
      go_ret
      exact ⟨ret_bool E0.out.symm, H2.out⟩
    have v0 := within_t q0
    by_cases q1 : 0 ≤ x2 ∧ x2 ≤ 1099511627776
    case neg =>
      have v1 := within_f q1
      have E0 := Lib.hid (HX.out.1 fun h => q1 h.2.1)
      clear q0 q1 hei
      go_upto_region 7 with fail
      rw [← hW2]
      clear hW2 c0 c1 c2 c3 c4
      go_wp2_with (first | (go_at_call 27; refine (within_any _ _ _ _).mono ?_; rintro e w' ⟨rfl, rfl⟩))
      go_ret
      exact ⟨ret_bool E0.out.symm, H2.out⟩
    have v1 := within_t q1
    by_cases q2 : 1 ≤ x1 ∧ x1 ≤ 1099511627776
    case neg =>
      have v2 := within_f q2
      have E0 := Lib.hid (HX.out.1 fun h => q2 h.2.2)
      clear q0 q1 q2 hei
      go_upto_region 7 with fail
      rw [← hW2]
      clear hW2 c0 c1 c2 c3 c4
      go_wp2_with (first | (go_at_call 27; refine (within_any _ _ _ _).mono ?_; rintro e w' ⟨rfl, rfl⟩))
      go_ret
      exact ⟨ret_bool E0.out.symm, H2.out⟩
    have v2 := within_t q2
    have N := Lib.hid (HX.out.2 ⟨q0, q1, q2⟩)
    have hw : IntKind.i64.wrap (x0 + x1) = x0 + x1 := by rw [IntKind.wrap_i64]; omega
    clear q0 q1 q2
    go_upto_region 7 with fail
    rw [← hW2]
    clear hW2 c0 c1 c2 c3 c4
    go_wp2_with (first | (go_at_call 27; refine (within_any _ _ _ _).mono ?_; rintro e w' ⟨rfl, rfl⟩))
    go_roundw
    case rel => exact ⟨k + 1, by omega, by go_num, by rw [N.out.2], N.out.1, H2.out⟩
    case measure => simp [intOf]; omega
end Go.Proofs.Ythnhnmmabjmjgaa
