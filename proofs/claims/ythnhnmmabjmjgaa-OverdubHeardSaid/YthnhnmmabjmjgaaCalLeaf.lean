/- Keys of records and their order (layer 42). -/
import Derived.Test.YthnhnmmabjmjgaaSR
import Derived.Test.YthnhnmmabjmjgaaWithin
import Derived.Test.YthnhnmmabjmjgaaGrow
namespace Go.Proofs.Ythnhnmmabjmjgaa
open Go.ChangeShapes Go.WideShapes Go.ChangeAt Go.RowKit Go.Sort

abbrev K3 := Int × Int × Int
abbrev vK (k : K3) : Value := .agg #[.int .i64 k.1, .int .i64 k.2.1, .int .i64 k.2.2]
abbrev vR (m : Rt) : Value := .agg #[.int .i64 m.1, .int .i64 m.2.1, .int .i64 m.2.2.1, .int .i64 m.2.2.2.1, .int .i64 m.2.2.2.2]
abbrev ky (m : Rt) : K3 := (m.1, m.2.1, m.2.2.1)
def cmpi (x y : Int) : Int := if x < y then -1 else if y < x then 1 else 0
def cmp3 (x y : K3) : Int := if x.1 = y.1 then (if x.2.1 = y.2.1 then cmpi x.2.2 y.2.2 else cmpi x.2.1 y.2.1) else cmpi x.1 y.1
def at3 (x : K3) (i : Nat) : Int := match i with | 0 => x.1 | 1 => x.2.1 | _ => x.2.2
def ltK (x y : K3) : Prop := x.1 < y.1 ∨ x.1 = y.1 ∧ (x.2.1 < y.2.1 ∨ x.2.1 = y.2.1 ∧ x.2.2 < y.2.2)

theorem cmpi_lt {x y : Int} : cmpi x y < 0 ↔ x < y := by unfold cmpi; split <;> (try split) <;> omega
theorem cmpi_eq {x y : Int} : cmpi x y = 0 ↔ x = y := by unfold cmpi; split <;> (try split) <;> omega
theorem cmpi_bd (x y : Int) : -1 ≤ cmpi x y ∧ cmpi x y ≤ 1 := by unfold cmpi; split <;> (try split) <;> omega
theorem cmp3_lt {x y : K3} : cmp3 x y < 0 ↔ ltK x y := by
  unfold cmp3 ltK
  split
  · split
    · rw [cmpi_lt]; omega
    · rw [cmpi_lt]; omega
  · rw [cmpi_lt]; omega
theorem cmp3_eq {x y : K3} : cmp3 x y = 0 ↔ x = y := by
  obtain ⟨a, b, c⟩ := x; obtain ⟨d, e, f⟩ := y
  unfold cmp3
  simp only [Prod.mk.injEq]
  split
  · split
    · rw [cmpi_eq]; omega
    · rw [cmpi_eq]; omega
  · rw [cmpi_eq]; omega
theorem cmp3_bd (x y : K3) : -1 ≤ cmp3 x y ∧ cmp3 x y ≤ 1 := by
  unfold cmp3; split
  · split <;> exact cmpi_bd _ _
  · exact cmpi_bd _ _
theorem cmp3_at {x y : K3} {k : Nat} (hk : k < 3) (h : ∀ j, j < k → at3 x j = at3 y j) (hne : at3 x k ≠ at3 y k) : cmp3 x y = cmpi (at3 x k) (at3 y k) := by
  unfold cmp3
  match k, hk with
  | 0, _ => exact if_neg hne
  | 1, _ => rw [if_pos (show x.1 = y.1 from h 0 (by omega)), if_neg (show ¬ x.2.1 = y.2.1 from hne)]; rfl
  | 2, _ => rw [if_pos (show x.1 = y.1 from h 0 (by omega)), if_pos (show x.2.1 = y.2.1 from h 1 (by omega))]; rfl
theorem cmp3_all {x y : K3} (h : ∀ j, j < 3 → at3 x j = at3 y j) : cmp3 x y = 0 := by
  have h0 := h 0 (by omega); have h1 := h 1 (by omega); have h2 := h 2 (by omega)
  obtain ⟨a, b, c⟩ := x; obtain ⟨d, e, f⟩ := y
  simp [at3] at h0 h1 h2
  subst h0 h1 h2
  exact cmp3_eq.2 rfl

theorem ccmp_any (x y : Int) (w : World) :
    Calls Try.prog 84 #[.int .i64 x, .int .i64 y] w fun e w' => e = .returned (.int .i64 (cmpi x y)) ∧ w = w' := by
  by_cases h1 : x < y
  · have e0 : cmpi x y = -1 := if_pos h1
    rw [e0]; clear e0
    go_enter Try.func84, Try.ntmps84
    go_wp2
    all_goals go_ret
    all_goals exact ⟨rfl, rfl⟩
  by_cases h2 : y < x
  · have e0 : cmpi x y = 1 := by unfold cmpi; rw [if_neg h1, if_pos h2]
    rw [e0]; clear e0
    go_enter Try.func84, Try.ntmps84
    go_wp2
    all_goals go_ret
    all_goals exact ⟨rfl, rfl⟩
  · have e0 : cmpi x y = 0 := by unfold cmpi; rw [if_neg h1, if_neg h2]
    rw [e0]; clear e0
    go_enter Try.func84, Try.ntmps84
    go_wp2
    all_goals go_ret
    all_goals exact ⟨rfl, rfl⟩

theorem at3_cell {w : World} {b : Nat} {x : K3} {t : TypeId} {fr : Nat × Nat} (h : w.heap[b]? = some (.cells #[.int .i64 x.1, .int .i64 x.2.1, .int .i64 x.2.2] t fr)) {k : Nat} (hk : k < 3) : w.cell? ⟨b, k, none⟩ = some (.int .i64 (at3 x k)) := by
  rw [blk_cell h k]
  match k, hk with
  | 0, _ => rfl
  | 1, _ => rfl
  | 2, _ => rfl

set_option maxRecDepth 100000 in
set_option maxHeartbeats 1000000 in
theorem scmp_any (b c : Nat) (x y : K3) (t t2 : TypeId) (fr fr2 : Nat × Nat) (w : World) (hb : w.heap[b]? = some (.cells #[.int .i64 x.1, .int .i64 x.2.1, .int .i64 x.2.2] t fr)) (hc : w.heap[c]? = some (.cells #[.int .i64 y.1, .int .i64 y.2.1, .int .i64 y.2.2] t2 fr2)) :
    Calls Try.prog 53 #[.slice (some ⟨b, 0, none⟩) 3 3, .slice (some ⟨c, 0, none⟩) 3 3] w fun e w' => e = .returned (.int .i64 (cmp3 x y)) ∧ w = w' := by
  have HB := Lib.hid hb; have HC := Lib.hid hc
  clear hb hc
  go_enter Try.func53, Try.ntmps53
  go_wp2
  go_loop [11] (fun i => ∃ k : Nat, k ≤ 3 ∧ i = .int .i64 k ∧ ∀ j, j < k → at3 x j = at3 y j) (fun i => 3 - (intOf i).toNat)
  case atStart => exact ⟨0, by omega, rfl, fun j hj => by omega⟩
  case round =>
    obtain ⟨k, hk, rfl, heq⟩ := hrel
    have HE := Lib.hid heq; clear heq
    by_cases hlt : k < 3
    · have c0 := at3_cell HB.out hlt
      have c1 := at3_cell HC.out hlt
      have hk3 : (k : Int) < 3 := by omega
      by_cases he : at3 x k = at3 y k
      · have e0 : cmpi (at3 x k) (at3 y k) = 0 := cmpi_eq.2 he
        have HK := Lib.hid he; clear he
        go_wp2_with (go_at_call 84; refine (ccmp_any _ _ _).mono ?_; rintro e w' ⟨rfl, rfl⟩)
        go_round
        case rel => exact ⟨k + 1, by omega, by go_num, fun j hj => by
          by_cases e : j = k
          · subst e; exact HK.out
          · exact HE.out j (by omega)⟩
        case measure => simp [intOf]; omega
      · have e0 : (cmpi (at3 x k) (at3 y k) != 0) = true := by
          have := fun h => he (cmpi_eq.1 h)
          simpa using this
        have HR := Lib.hid (cmp3_at hlt HE.out he); clear he
        go_wp2_with (go_at_call 84; refine (ccmp_any _ _ _).mono ?_; rintro e w' ⟨rfl, rfl⟩)
        go_ret
        exact ⟨ret_int HR.out.symm, rfl⟩
    · have hk3 : ¬ (k : Int) < 3 := by omega
      have HR := Lib.hid (cmp3_all fun j hj => HE.out j (by omega))
      go_wp2
      go_ret
      exact ⟨ret_int HR.out.symm, rfl⟩

set_option maxRecDepth 100000 in
set_option maxHeartbeats 1000000 in
theorem compare_any (x y : K3) (w : World) :
    Calls Try.prog 42 #[vK x, vK y] w fun e w' => e = .returned (.int .i64 (cmp3 x y)) ∧ Below w.heap.size w w' := by
  obtain ⟨a, b, c⟩ := x
  obtain ⟨d, e, f⟩ := y
  dsimp only [vK]
  have HB : Hid (Below w.heap.size w ((w.alloc (.cells #[.int .i64 a, .int .i64 b, .int .i64 c] 101)).alloc (.cells #[.int .i64 d, .int .i64 e, .int .i64 f] 101))) := Lib.hid (by go_grown)
  have h1 := blk_alloc (blk_new w (.cells #[.int .i64 a, .int .i64 b, .int .i64 c] 101)) (.cells #[.int .i64 d, .int .i64 e, .int .i64 f] 101)
  have h2 := blk_new (w.alloc (.cells #[.int .i64 a, .int .i64 b, .int .i64 c] 101)) (.cells #[.int .i64 d, .int .i64 e, .int .i64 f] 101)
  have hs : (w.alloc (.cells #[.int .i64 a, .int .i64 b, .int .i64 c] 101)).heap.size = w.heap.size + 1 := by simp
  rw [hs] at h2
  have H := Lib.hid (show _ ∧ _ from ⟨h1, h2⟩)
  clear h1 h2 hs
  go_enter Try.func42, Try.ntmps42
  go_wp2
  generalize (w.alloc (.cells #[.int .i64 a, .int .i64 b, .int .i64 c] 101)).alloc (.cells #[.int .i64 d, .int .i64 e, .int .i64 f] 101) = W at *
  refine wp_region_quiet_below (by kernel_rfl) (by kernel_rfl) ?_
  repeat (go_big_quiet_step (((go_at_call 53; exact regrown_same (scmp_any _ _ (a, b, c) (d, e, f) _ _ _ _ _ (blk_below H.out.1 (below_regrown W _ _) (Array.getElem?_eq_some_iff.1 H.out.1).1) (blk_below H.out.2 (below_regrown W _ _) (Array.getElem?_eq_some_iff.1 H.out.2).1))))))
  refine wpQuiet_nil ?_
  intro WQ hq'
  have hq := of_regrown hq'
  clear hq'
  go_wp2
  go_ret
  exact ⟨rfl, below_after HB.out hq HB.out.size⟩
set_option maxRecDepth 100000 in
theorem keyOf_any (m : Rt) (w : World) :
    Calls Try.prog 43 #[vR m] w fun e w' => e = .returned (vK (ky m)) ∧ Below w.heap.size w w' := by
  obtain ⟨a, b, c, d, e⟩ := m
  dsimp only [vK, vR, ky]
  go_enter Try.func43, Try.ntmps43
  go_wp2
  exact bodyPost_ret (v := .agg #[.int .i64 a, .int .i64 b, .int .i64 c]) (by simp [results, Try.results43, go_sem]) rfl ⟨rfl, by go_grown⟩
end Go.Proofs.Ythnhnmmabjmjgaa
