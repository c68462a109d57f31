/- The reference's Heard (layer 44). -/
import Derived.Test.YthnhnmmabjmjgaaOvdMath
namespace Go.Proofs.Ythnhnmmabjmjgaa
open Go.ChangeShapes Go.WideShapes Go.ChangeAt Go.RowKit Go.Shelf

set_option maxRecDepth 100000 in
set_option maxHeartbeats 8000000 in
theorem rheard_any (a : Option Addr) (n cap b off : Nat) (l : List Ht) (h : Int) (w : World) (hM : Hs w a n b off l) (hn : n ≤ 65536) (ho : OrdTo l l.length) (h0 : -1099511627776 ≤ h) (h1 : h ≤ 2199023255552) :
    Calls Try.prog 29 #[.slice a n cap, .int .i64 h] w fun e w' => e = .returned (.int .i64 (hrd l h)) ∧ Below w.heap.size w w' := by
  have HM := Lib.hid (show _ ∧ _ from ⟨hM, ho⟩)
  obtain ⟨hl, ha, -⟩ := hM
  have HL := Lib.hid (show _ ∧ _ from ⟨hl, ha⟩); clear hl ha ho
  go_enter Try.func29, Try.ntmps29
  go_wp2
  go_loopw [5] (fun i wr => ∃ k : Nat, k ≤ n ∧ i = .int .i64 k ∧ (∀ j, j < k → ¬ hearsH h (nthH l j)) ∧ Below w.heap.size w wr) (fun i _ => n - (intOf i).toNat)
  case atStart => exact ⟨0, Nat.zero_le _, rfl, fun i hi => by omega, Below.refl _ _⟩
  case round =>
    obtain ⟨k, hk, rfl, hok, hb⟩ := hrel
    have HK := Lib.hid (show _ ∧ _ from ⟨hok, hb⟩); clear hok hb
    by_cases hlt : k < n
    case neg =>
      obtain rfl : k = n := by omega
      have E0 := Lib.hid (hrd_no (l := l) (h := h) fun j hj => HK.out.1 j (by rw [← HL.out.1]; exact hj))
      go_wp2
      go_ret
      exact ⟨ret_int E0.out.symm, HK.out.2⟩
    obtain ⟨rfl, hbw⟩ := HL.out.2 (by omega)
    obtain ⟨c0, c1, c2, c3, c4⟩ := (HM.out.1.grown HK.out.2).2.2 k hlt
    have hb0 := HK.out.2.size
    have hkl : k < l.length := by rw [HL.out.1]; exact hlt
    have hyes : hearsH h (nthH l k) → hrd l h = (nthH l k).2.2.1 + h - (nthH l k).1 := fun g => hrd_at HM.out.2 hkl g
    have hnx : ¬ hearsH h (nthH l k) → ∀ j, j < k + 1 → ¬ hearsH h (nthH l j) := fun g j hj => by
      by_cases e : j = k
      · subst e; exact g
      · exact HK.out.1 j (by omega)
    have hx0 := HM.out.2 k hkl
    have hx1 := (endH_in (l := l) (k := k) fun j hj => HM.out.2 j (by omega)).1
    unfold OkH at hx0
    generalize nthH l k = x at *
    obtain ⟨x0, x1, x2, x3, x4⟩ := x
    have HX := Lib.hid (show _ ∧ _ from ⟨hyes, hnx⟩); clear hyes hnx
    dsimp only at c0 c1 c2 c3 c4 hx0
    obtain ⟨W2, hW2⟩ : ∃ W2, W2 = wr.alloc (.cells #[.int .i64 x0, .int .i64 x1, .int .i64 x2, .bool x3, .bool x4] 50) := ⟨_, rfl⟩
    have hb2 : Below wr.heap.size wr W2 := by rw [hW2]; exact (Below.refl _ _).alloc (Nat.le_refl _) _
    have hx2 : W2.heap[wr.heap.size]? = some (.cells #[.int .i64 x0, .int .i64 x1, .int .i64 x2, .bool x3, .bool x4] 50 (0, 0)) := by rw [hW2]; exact blk_new _ _
    have hB2 := below_after HK.out.2 hb2 hb0
    have H2 := Lib.hid hB2
    have d0 := blk_cell hx2 0; have d1 := blk_cell hx2 1; have d2 := blk_cell hx2 2; have d3 := blk_cell hx2 3; have d4 := blk_cell hx2 4
    simp at d0 d1 d2 d3 d4
    clear hb2 hx2 hB2
    by_cases q : x3 = true ∧ x4 = true ∧ x0 ≤ h ∧ h < x0 + x1
    · have E0 := Lib.hid (HX.out.1 q)
      obtain ⟨rfl, rfl, q0, q1⟩ := q
      have z0 : decide (x0 ≤ h) = true := decide_eq_true q0
      have z1 : decide (h < x0 + x1) = true := decide_eq_true q1
      go_upto_region 5 with fail
      rw [← hW2]
      clear hW2 c0 c1 c2 c3 c4
      go_wp2
      go_ret
      exact ⟨ret_int E0.out.symm, H2.out⟩
    have N := Lib.hid (HX.out.2 q)
    go_upto_region 5 with fail
    rw [← hW2]
    clear hW2 c0 c1 c2 c3 c4
    cases x3
    case false =>
      clear q
      go_wp2
      go_roundw
      case rel => exact ⟨k + 1, by omega, by go_num, N.out, H2.out⟩
      case measure => simp [intOf]; omega
    cases x4
    case false =>
      clear q
      go_wp2
      go_roundw
      case rel => exact ⟨k + 1, by omega, by go_num, N.out, H2.out⟩
      case measure => simp [intOf]; omega
    by_cases q0 : x0 ≤ h
    case neg =>
      have z0 : decide (x0 ≤ h) = false := decide_eq_false q0
      clear q
      go_wp2
      go_roundw
      case rel => exact ⟨k + 1, by omega, by go_num, N.out, H2.out⟩
      case measure => simp [intOf]; omega
    have z0 : decide (x0 ≤ h) = true := decide_eq_true q0
    have q1 : ¬ h < x0 + x1 := fun g => q ⟨rfl, rfl, q0, g⟩
    have z1 : decide (h < x0 + x1) = false := decide_eq_false q1
    clear q
    go_wp2
    go_roundw
    case rel => exact ⟨k + 1, by omega, by go_num, N.out, H2.out⟩
    case measure => simp [intOf]; omega
end Go.Proofs.Ythnhnmmabjmjgaa
