/- The walks of the reference's At, Convert and Same (layer 26). -/
import Derived.Test.YtipjogicjgkgjaaSpAt
namespace Go.Proofs.Ytipjogicjgkgjaa
open Go.ChangeShapes Go.WideShapes Go.ChangeAt Go.RowKit Go.Shelf

set_option maxRecDepth 100000 in
set_option maxHeartbeats 4000000 in
theorem rat_no (a : Option Addr) (n cap : Nat) (aa bb i : Int) (w : World) (hn : n ≤ 16777216) (hv : ¬ ErrAt n aa bb i) :
    Calls Try.prog 14 #[.slice a n cap, .int .i64 aa, .int .i64 bb, .int .i64 i] w fun e w' => e = .returned (.tuple #[.int .i64 0, .int .i64 1]) ∧ w' = w := by
  by_cases hs : Spd aa bb
  · have v1 := spd_t hs
    have hs' := hs
    obtain ⟨⟨a1, a2⟩, ⟨b1, b2⟩, hg⟩ := hs
    clear hg
    by_cases hi : i < 0
    · clear hv hs'
      go_enter Try.func14, Try.ntmps14
      go_wp2_with (first | (go_at_call 23; refine (valid_any _ _ _).mono ?_; rintro e w' ⟨rfl, rfl⟩; rw [v1]) | (go_at_call 24; refine (rlength_any _ _ _ _ (by omega) (by omega) a1 a2 b1 b2).mono ?_; rintro e w' ⟨rfl, rfl⟩))
      go_ret2
      exact ⟨rfl, rfl⟩
    · have hl : lenV n aa bb ≤ i := by
        apply Int.not_lt.1
        intro g
        exact hv ⟨hs', hn, by omega, g⟩
      clear hv hs'
      go_enter Try.func14, Try.ntmps14
      go_wp2_with (first | (go_at_call 23; refine (valid_any _ _ _).mono ?_; rintro e w' ⟨rfl, rfl⟩; rw [v1]) | (go_at_call 24; refine (rlength_any _ _ _ _ (by omega) (by omega) a1 a2 b1 b2).mono ?_; rintro e w' ⟨rfl, rfl⟩))
      go_ret2
      exact ⟨rfl, rfl⟩
  · have v1 := spd_f hs
    clear hs hv
    go_enter Try.func14, Try.ntmps14
    go_wp2_with (first | (go_at_call 23; refine (valid_any _ _ _).mono ?_; rintro e w' ⟨rfl, rfl⟩; rw [v1]))
    go_ret2
    exact ⟨rfl, rfl⟩

/-- What the reference's Sample yields. -/
theorem rsmp_any (a : Option Addr) (b off n cap : Nat) (l : List Int) (aa bb : Int) (k : Nat) (w : World) (hR : Row w a b off n l) (hn : n ≤ 16777216) (a1 : 1 ≤ aa) (a2 : aa ≤ 64) (b1 : 1 ≤ bb) (b2 : bb ≤ 64) (i1 : (k : Int) < lenV n aa bb) :
    Calls Try.prog 26 #[.slice a n cap, .int .i64 aa, .int .i64 bb, .int .i64 k] w fun e w' => e = .returned (.int .i64 (smpI l aa bb k)) ∧ Below w.heap.size w w' := by
  obtain ⟨q, hq, hqn, hq1, p0⟩ := place_ok a1 b1 i1
  have hy : smpI l aa bb k = sV l q ((k : Int) * aa % bb) bb := by unfold smpI; rw [hq]; rfl
  have hb2 := (lenV_bd (n := n) (a := aa) (b := bb) (by omega) (by omega) a1 b1 b2).2.1
  have p1 : (k : Int) * aa ≤ 1073741824 * 64 := Int.mul_le_mul (by omega) a2 (by omega) (by omega)
  rw [hy]
  exact rsample_any a b off n cap l k aa bb q _ w hR hn hq rfl p0 (by omega) hqn hq1 (Int.emod_nonneg _ (by omega)) (Int.le_of_lt (Int.emod_lt_of_pos _ (by omega))) b1 b2

set_option maxRecDepth 100000 in
set_option maxHeartbeats 4000000 in
theorem rat_ok (a : Option Addr) (b off n cap : Nat) (l : List Int) (aa bb i : Int) (w : World) (hR : Row w a b off n l) (hn : n ≤ 16777216) (hs : Spd aa bb) (i0 : 0 ≤ i) (i1 : i < lenV n aa bb) :
    Calls Try.prog 14 #[.slice a n cap, .int .i64 aa, .int .i64 bb, .int .i64 i] w fun e w' => e = .returned (.tuple #[.int .i64 (smpI l aa bb i.toNat), .int .i64 0]) ∧ Below w.heap.size w w' := by
  obtain ⟨k, rfl⟩ := Int.eq_ofNat_of_zero_le i0
  have v1 := spd_t hs
  obtain ⟨⟨a1, a2⟩, ⟨b1, b2⟩, hg⟩ := hs
  clear hg
  rw [show ((k : Int)).toNat = k from rfl]
  have HR := Lib.hid hR
  have i1' : ¬ lenV n aa bb ≤ (k : Int) := by omega
  have i1'' : decide (lenV n aa bb ≤ (k : Int)) = false := decide_eq_false i1'
  clear hR
  go_enter Try.func14, Try.ntmps14
  go_wp2_with (first | (go_at_call 23; refine (valid_any _ _ _).mono ?_; rintro e w' ⟨rfl, rfl⟩; rw [v1]) | (go_at_call 24; refine (rlength_any _ _ _ _ (by omega) (by omega) a1 a2 b1 b2).mono ?_; rintro e w' ⟨rfl, rfl⟩) | (go_at_call 26; refine (rsmp_any _ b off _ _ l _ _ _ _ HR.out hn a1 a2 b1 b2 i1).mono ?_; rintro e w' ⟨rfl, hb⟩))
  go_ret2
  exact ⟨rfl, hb⟩

set_option maxHeartbeats 4000000 in
theorem rconvert_no (a : Option Addr) (n cap : Nat) (aa bb : Int) (w : World) (hv : ¬ Spd aa bb) :
    Calls Try.prog 16 #[.slice a n cap, .int .i64 aa, .int .i64 bb] w fun e w' => e = .returned (.tuple #[.slice none 0 0, .int .i64 1]) ∧ Below w.heap.size w w' := by
  have v1 := spd_f hv
  clear hv
  go_enter Try.func16, Try.ntmps16
  go_wp2_with (first | (go_at_call 23; refine (valid_any _ _ _).mono ?_; rintro e w' ⟨rfl, rfl⟩; rw [v1]))
  go_ret2
  exact ⟨rfl, Below.refl _ _⟩

theorem same_any (a a' : Option Addr) (b b' off off' n n' cap cap' : Nat) (l l' : List Int) (w : World) (h : Row w a b off n l) (h' : Row w a' b' off' n' l') (hn : n ≤ 16777216) (hn' : n' ≤ 16777216) (he : l = l') :
    Calls Try.prog 17 #[.slice a n cap, .slice a' n' cap'] w fun e w' => e = .returned (.bool true) ∧ Below w.heap.size w w' := by
  subst he
  obtain rfl : n = n' := by rw [← h.len, h'.len]
  have HR := Lib.hid h; have HR' := Lib.hid h'; clear h h'
  go_enter Try.func17, Try.ntmps17
  go_wp2
  go_loopw [5] (fun i wr => ∃ k : Nat, k ≤ n ∧ i = .int .i64 k ∧ Below w.heap.size w wr) (fun i _ => n - (intOf i).toNat)
  case atStart => exact ⟨0, Nat.zero_le _, rfl, Below.refl _ _⟩
  case round =>
    obtain ⟨k, hk, rfl, hB⟩ := hrel
    by_cases hlt : k < n
    · obtain rfl := HR.out.adr (by omega)
      obtain rfl := HR'.out.adr (by omega)
      have hc1 := (HR.out.below hB (Nat.le_refl _)).cel k hlt
      have hc2 := (HR'.out.below hB (Nat.le_refl _)).cel k hlt
      generalize hx : l.getD k 0 = x at *
      have HX := Lib.hid hx; clear hx
      go_wp2
      go_quiet (fail)
      go_wp2
      go_roundw
      case rel => exact ⟨k + 1, by omega, by go_num, below_drewN hB _⟩
      case measure => simp [intOf]; omega
    · obtain rfl : k = n := by omega
      go_wp2
      go_ret
      exact ⟨rfl, hB⟩

theorem ints_empty (w : World) : Ints (w.alloc (.cells #[] 3)) w.heap.size (.slice (some ⟨w.heap.size, 0, none⟩) 0 0) [] :=
  ⟨rfl, .inr ⟨w.heap.size, 0, #[], rfl, Nat.le_refl _, blk_new _ _, Nat.le_refl _, by decide, rfl, rfl⟩⟩

set_option maxRecDepth 100000 in
set_option maxHeartbeats 4000000 in
theorem rconvert_ok (a : Option Addr) (b off n cap M : Nat) (l : List Int) (aa bb : Int) (w : World) (hR : Row w a b off n l) (hn : n ≤ 16777216) (hs : Spd aa bb) (hM : lenV n aa bb = (M : Int)) (hM2 : M ≤ 1000000) :
    Calls Try.prog 16 #[.slice a n cap, .int .i64 aa, .int .i64 bb] w fun e w' => ∃ v, e = .returned (.tuple #[v, .int .i64 0]) ∧ Ints w' w.heap.size v (convL l aa bb M) ∧ Below w.heap.size w w' := by
  have v1 := spd_t hs
  obtain ⟨⟨a1, a2⟩, ⟨b1, b2⟩, hgc⟩ := hs
  have HR := Lib.hid hR; clear hR hgc
  go_enter Try.func16, Try.ntmps16
  go_wp2_with (first | (go_at_call 23; refine (valid_any _ _ _).mono ?_; rintro e w' ⟨rfl, rfl⟩; rw [v1]) | (go_at_call 24; refine (rlength_any _ _ _ _ (by omega) (by omega) a1 a2 b1 b2).mono ?_; rintro e w' ⟨rfl, rfl⟩; rw [hM]))
  go_loopw [9, 10] (fun v i wr => ∃ k : Nat, k ≤ M ∧ i = .int .i64 k ∧ Ints wr w.heap.size v (convL l aa bb k) ∧ Below w.heap.size w wr) (fun _ i _ => M - (intOf i).toNat)
  case atStart => exact ⟨0, Nat.zero_le _, rfl, ints_empty w, by go_grown⟩
  case round =>
    obtain ⟨k, hk, rfl, hO, hB⟩ := hrel
    by_cases hlt : k < M
    · have HO := Lib.hid hO; clear hO
      have hRw := HR.out.below hB (Nat.le_refl _)
      have HW := Lib.hid hRw; clear hRw
      have hs := hB.size
      have HB := Lib.hid hB; clear hB
      go_wp2_with (first
        | (go_at_call 26; refine (rsmp_any _ b off _ _ l _ _ _ _ HW.out hn a1 a2 b1 b2 (by rw [hM]; omega)).mono ?_; rintro e w2 ⟨rfl, hb⟩; have hO2 := HO.out.below hb (Nat.le_refl _); have hz := hb.size)
        | (at_builtin; refine wpList_append_int rfl _ _ rfl w.heap.size _ _ rfl (hO2.alloc _) _ _ rfl _ _ (blk_new _ _) (by rw [convL_len]; omega) (by simp; omega) ?_; intro v' w1 hO1 hB1 _))
      have HO1 := Lib.hid hO1; clear hO1 hO2
      go_roundw
      case rel => exact ⟨k + 1, by omega, by go_num, by rw [convL_succ]; exact HO1.out, ((below_after HB.out hb HB.out.size).alloc (by omega) _).trans hB1⟩
      case measure => simp [intOf]; omega
    · obtain rfl : k = M := by omega
      go_wp2
      go_ret2
      exact ⟨_, rfl, hO, hB⟩
end Go.Proofs.Ytipjogicjgkgjaa
