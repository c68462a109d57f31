/- The walks of At, and of Convert when it fails (layer 26). -/
import Derived.Test.YtipjogicjgkgjaaSpConvert
namespace Go.Proofs.Ytipjogicjgkgjaa
open Go.ChangeShapes Go.WideShapes Go.ChangeAt Go.RowKit Go.Shelf

def ErrAt (n : Nat) (a b i : Int) : Prop := Spd a b ∧ n ≤ 16777216 ∧ 0 ≤ i ∧ i < lenV n a b
instance (n : Nat) (a b i : Int) : Decidable (ErrAt n a b i) := by unfold ErrAt; infer_instance

set_option maxRecDepth 100000 in
set_option maxHeartbeats 4000000 in
theorem at_no (a : Option Addr) (n cap : Nat) (aa bb i : Int) (w : World) (hn : n ≤ 16777216) (hv : ¬ ErrAt n aa bb i) :
    Calls Try.prog 13 #[.slice a n cap, .int .i64 aa, .int .i64 bb, .int .i64 i] w fun e w' => e = .returned (.tuple #[.int .i64 0, .int .i64 1]) ∧ w' = w := by
  by_cases hs : Spd aa bb
  · have v1 := spd_t hs
    have hs' := hs
    obtain ⟨⟨a1, a2⟩, ⟨b1, b2⟩, hg⟩ := hs
    clear hg
    by_cases hi : i < 0
    · clear hv hs'
      go_enter Try.func13, Try.ntmps13
      go_wp2_with (first | (go_at_call 20; refine (isSpeed_any _ _ _).mono ?_; rintro e w' ⟨rfl, rfl⟩; rw [v1]) | (go_at_call 22; refine (length_any _ _ _ _ (by omega) (by omega) a1 a2 b1 b2).mono ?_; rintro e w' ⟨rfl, rfl⟩))
      go_ret2
      exact ⟨rfl, rfl⟩
    · have hl : lenV n aa bb ≤ i := by
        apply Int.not_lt.1
        intro g
        exact hv ⟨hs', hn, by omega, g⟩
      clear hv hs'
      go_enter Try.func13, Try.ntmps13
      go_wp2_with (first | (go_at_call 20; refine (isSpeed_any _ _ _).mono ?_; rintro e w' ⟨rfl, rfl⟩; rw [v1]) | (go_at_call 22; refine (length_any _ _ _ _ (by omega) (by omega) a1 a2 b1 b2).mono ?_; rintro e w' ⟨rfl, rfl⟩))
      go_ret2
      exact ⟨rfl, rfl⟩
  · have v1 := spd_f hs
    clear hs hv
    go_enter Try.func13, Try.ntmps13
    go_wp2_with (first | (go_at_call 20; refine (isSpeed_any _ _ _).mono ?_; rintro e w' ⟨rfl, rfl⟩; rw [v1]))
    go_ret2
    exact ⟨rfl, rfl⟩

set_option maxHeartbeats 4000000 in
theorem convert_no (a : Option Addr) (n cap : Nat) (aa bb : Int) (w : World) (hv : ¬ Spd aa bb) :
    Calls Try.prog 15 #[.slice a n cap, .int .i64 aa, .int .i64 bb] w fun e w' => e = .returned (.tuple #[.slice none 0 0, .int .i64 1]) ∧ Below w.heap.size w w' := by
  have v1 := spd_f hv
  clear hv
  go_enter Try.func15, Try.ntmps15
  go_wp2_with (first | (go_at_call 20; refine (isSpeed_any _ _ _).mono ?_; rintro e w' ⟨rfl, rfl⟩; rw [v1]))
  exact bodyPost_ret (v := .tuple #[.slice none 0 0, .int .i64 1]) (by simp [results, Try.results15, go_sem]) rfl ⟨rfl, by go_grown⟩

theorem convert_ok (a : Option Addr) (b off n cap M : Nat) (l : List Int) (aa bb : Int) (w : World) (hR : Row w a b off n l) (hn : n ≤ 16777216) (hs : Spd aa bb) (hM : lenV n aa bb = (M : Int)) (hM2 : M ≤ 1000000) :
    Calls Try.prog 15 #[.slice a n cap, .int .i64 aa, .int .i64 bb] w fun e w' => ∃ v, e = .returned (.tuple #[v, .int .i64 0]) ∧ Ints w' w.heap.size v (convL l aa bb M) ∧ Below w.heap.size w w' :=
  callsIn_wide.1 (convert_in a b off n cap M l aa bb w hR hn hs hM hM2)

set_option maxRecDepth 100000 in
set_option maxHeartbeats 4000000 in
theorem at_ok (a : Option Addr) (b off n cap : Nat) (l : List Int) (aa bb i : Int) (w : World) (hR : Row w a b off n l) (hn : n ≤ 16777216) (hs : Spd aa bb) (i0 : 0 ≤ i) (i1 : i < lenV n aa bb) :
    Calls Try.prog 13 #[.slice a n cap, .int .i64 aa, .int .i64 bb, .int .i64 i] w fun e w' => e = .returned (.tuple #[.int .i64 (smpI l aa bb i.toNat), .int .i64 0]) ∧ Below w.heap.size w w' := by
  obtain ⟨k, rfl⟩ := Int.eq_ofNat_of_zero_le i0
  have v1 := spd_t hs
  obtain ⟨⟨a1, a2⟩, ⟨b1, b2⟩, hg⟩ := hs
  clear hg
  obtain ⟨q, hq, hqn, hq1, p0⟩ := place_ok a1 b1 i1
  have hy : smpI l aa bb k = sV l q ((k : Int) * aa % bb) bb := by unfold smpI; rw [hq]; rfl
  have r0 : 0 ≤ (k : Int) * aa % bb := Int.emod_nonneg _ (by omega)
  have r1 : (k : Int) * aa % bb ≤ bb := Int.le_of_lt (Int.emod_lt_of_pos _ (by omega))
  have hb2 := (lenV_bd (n := n) (a := aa) (b := bb) (by omega) (by omega) a1 b1 b2).2.1
  have p1 : (k : Int) * aa ≤ 1073741824 * 64 := Int.mul_le_mul (by omega) a2 (by omega) (by omega)
  have zb : (bb == 0) = false := by simp; omega
  have zb2 : ¬ bb = 0 := by omega
  have td : ((k : Int) * aa).tdiv bb = (q : Int) := by rw [Int.tdiv_eq_ediv_of_nonneg p0, hq]
  have tm : ((k : Int) * aa).tmod bb = (k : Int) * aa % bb := Int.tmod_eq_emod_of_nonneg p0
  have zw : IntKind.i64.wrap ((k : Int) * aa) = (k : Int) * aa := by rw [IntKind.wrap_i64]; omega
  have zq : IntKind.i64.wrap (q : Int) = (q : Int) := by rw [IntKind.wrap_i64]; omega
  rw [show ((k : Int)).toNat = k from rfl, hy]
  clear hy
  generalize hr : (k : Int) * aa % bb = r at *
  obtain ⟨y, hsv⟩ : ∃ y, y = sV l q r bb := ⟨_, rfl⟩
  have HSV := Lib.hid hsv
  rw [← hsv]
  have HR := Lib.hid hR
  have i1' : ¬ lenV n aa bb ≤ (k : Int) := by omega
  have i1'' : decide (lenV n aa bb ≤ (k : Int)) = false := decide_eq_false i1'
  clear hr hsv hR
  go_enter Try.func13, Try.ntmps13
  go_wp2_with (first | (go_at_call 20; refine (isSpeed_any _ _ _).mono ?_; rintro e w' ⟨rfl, rfl⟩; rw [v1]) | (go_at_call 22; refine (length_any _ _ _ _ (by omega) (by omega) a1 a2 b1 b2).mono ?_; rintro e w' ⟨rfl, rfl⟩))
  -- WALK
  refine wp_region_from 0 2 (fun _ => True) (by kernel_rfl) (by kernel_rfl) (by decide) (by kernel_rfl) trivial ?_
  simp only [List.drop_zero, List.take_succ_cons, List.take_zero]
  refine wpHeld_cons (.slice a n cap) (by kernel_rfl) ?_ ?_
  · intro w' s0
    try go_simp
  refine wpHeld_cons (.int .i64 bb) (by kernel_rfl) ?_ ?_
  · intro w' s0
    try go_simp
  refine wpHeld_nil ?_
  go_simp
  refine wpAnyH_from 3 10 (fun _ _ _ _ _ h => h) (by kernel_rfl) (by decide) (by kernel_rfl) trivial ?_
  simp only [List.drop_succ_cons, List.drop_zero, List.take_succ_cons, List.take_zero]
  refine wpHeld_cons (.int .i64 (k : Int)) (by kernel_rfl) ?_ ?_
  · intro w' s0
    try go_simp
  refine wpHeld_cons (.int .i64 aa) (by kernel_rfl) ?_ ?_
  · intro w' s0
    try go_simp
  refine wpHeld_cons (.int .i64 ((k : Int) * aa)) (by kernel_rfl) ?_ ?_
  · intro w' s0
    try go_simp
  refine wpHeld_cons (.int .i64 bb) (by kernel_rfl) ?_ ?_
  · intro w' s0
    try go_simp
  refine wpHeld_cons (.int .i64 (q : Int)) (by kernel_rfl) ?_ ?_
  · intro w' s0
    try go_simp
  refine wpHeld_cons (.int .i64 (k : Int)) (by kernel_rfl) ?_ ?_
  · intro w' s0
    try go_simp
  refine wpHeld_cons (.int .i64 aa) (by kernel_rfl) ?_ ?_
  · intro w' s0
    try go_simp
  refine wpHeld_cons (.int .i64 ((k : Int) * aa)) (by kernel_rfl) ?_ ?_
  · intro w' s0
    try go_simp
  refine wpHeld_cons (.int .i64 bb) (by kernel_rfl) ?_ ?_
  · intro w' s0
    try go_simp
  refine wpHeld_cons (.int .i64 r) (by kernel_rfl) ?_ ?_
  · intro w' s0
    try go_simp
  refine wpHeld_nil ?_
  go_simp
  refine wpAnyH_one (i := 2) (by kernel_rfl) rfl (by kernel_rfl) (fun K' hK' => ?_)
  go_simp
  refine (sampler_any _ _ _ _ _).mono ?_
  rintro e wS ⟨rfl, hwS⟩
  have hBS : Below w.heap.size w wS := by rw [hwS]; exact (((Below.refl _ _).drew).alloc (Nat.le_refl _) _).alloc (by simp) _
  have hs1 : wS.heap[w.heap.size]? = some (.cells #[.slice a n cap] 22 (0, 0)) := by rw [hwS]; exact blk_alloc (blk_new w.drew _) _
  have hs2 : wS.heap[w.heap.size + 1]? = some (.cells #[.int .i64 bb] 3 (0, 0)) := by
    rw [hwS]
    have := blk_new (w.drew.alloc (.cells #[.slice a n cap] 22)) (.cells #[.int .i64 bb] 3)
    rwa [World.size_alloc] at this
  have HRS := HR.out.below hBS (Nat.le_refl _)
  clear hwS
  refine hK' _ _ trivial ?_
  clear hK' K'
  refine wpAnyH_one (i := 13) (by kernel_rfl) rfl (by kernel_rfl) (fun K' hK' => ?_)
  go_simp
  refine (sampler1_any w.heap.size (w.heap.size + 1) a b off n cap l q r bb wS hs1 hs2 HRS hn hqn hq1 r0 r1 b1 b2).mono ?_
  rintro e w3 ⟨rfl, hb3⟩
  rw [← HSV.out]
  replace hb3 := below_after hBS hb3 hBS.size
  clear hs1 hs2 HRS hBS
  refine hK' _ _ trivial ?_
  clear hK' K'
  refine wpAnyH_from 14 2 (fun _ _ _ _ _ h => h) (by kernel_rfl) (by decide) (by kernel_rfl) trivial ?_
  simp only [List.drop_succ_cons, List.drop_zero, List.take_succ_cons, List.take_zero]
  refine wpHeld_cons (.int .i64 y) (by kernel_rfl) ?_ ?_
  · intro w' s0
    try go_simp
  refine wpHeld_cons (.int .i64 0) (by kernel_rfl) ?_ ?_
  · intro w' s0
    try go_simp
  refine wpHeld_nil ?_
  go_simp
  refine wpAnyH_done (by kernel_rfl) ?_ _
  refine NoPanic.normal ?_
  go_wp2
  go_ret2
  exact ⟨rfl, hb3⟩
end Go.Proofs.Ytipjogicjgkgjaa
