/- Lengths, and single samples (layer 26). -/
import Derived.Test.YtipjogicjgkgjaaSpGcd
import Derived.Test.YtipjogicjgkgjaaHeld
namespace Go.Proofs.Ytipjogicjgkgjaa
open Go.ChangeShapes Go.WideShapes Go.ChangeAt Go.RowKit Go.Shelf

def LOk (n a b : Int) : Prop := Spd a b ∧ (0 ≤ n ∧ n ≤ 16777216)
instance (n a b : Int) : Decidable (LOk n a b) := by unfold LOk; infer_instance
def lenR (n a b : Int) : Int := if LOk n a b then lenV n a b else 0
def lenE (n a b : Int) : Int := if LOk n a b then 0 else 1

set_option maxHeartbeats 1000000 in
theorem len_any (n a b : Int) (w : World) :
    Calls Try.prog 11 #[.int .i64 n, .int .i64 a, .int .i64 b] w fun e w' => e = .returned (.tuple #[.int .i64 (lenR n a b), .int .i64 (lenE n a b)]) ∧ w = w' := by
  unfold lenR lenE
  by_cases hs : Spd a b
  · by_cases hn : 0 ≤ n ∧ n ≤ 16777216
    · rw [if_pos ⟨hs, hn⟩, if_pos ⟨hs, hn⟩]
      have v1 := spd_t hs; have v2 := within_t hn
      obtain ⟨⟨a1, a2⟩, ⟨b1, b2⟩, hg⟩ := hs
      clear hg
      go_enter Try.func11, Try.ntmps11
      go_wp2_with (first | (go_at_call 20; refine (isSpeed_any _ _ _).mono ?_; rintro e w' ⟨rfl, rfl⟩; rw [v1]) | (go_at_call 21; refine (within_any _ _ _ _).mono ?_; rintro e w' ⟨rfl, rfl⟩) | (go_at_call 22; refine (length_any _ _ _ _ hn.1 hn.2 a1 a2 b1 b2).mono ?_; rintro e w' ⟨rfl, rfl⟩))
      go_ret2
      exact ⟨rfl, rfl⟩
    · rw [if_neg fun h => hn h.2, if_neg fun h => hn h.2]
      have v1 := spd_t hs; have v2 := within_f hn
      clear hs hn
      go_enter Try.func11, Try.ntmps11
      go_wp2_with (first | (go_at_call 20; refine (isSpeed_any _ _ _).mono ?_; rintro e w' ⟨rfl, rfl⟩; rw [v1]) | (go_at_call 21; refine (within_any _ _ _ _).mono ?_; rintro e w' ⟨rfl, rfl⟩))
      go_ret2
      exact ⟨rfl, rfl⟩
  · rw [if_neg fun h => hs h.1, if_neg fun h => hs h.1]
    have v1 := spd_f hs
    clear hs
    go_enter Try.func11, Try.ntmps11
    go_wp2_with (first | (go_at_call 20; refine (isSpeed_any _ _ _).mono ?_; rintro e w' ⟨rfl, rfl⟩; rw [v1]))
    go_ret2
    exact ⟨rfl, rfl⟩

set_option maxHeartbeats 1000000 in
theorem rlen_any (n a b : Int) (w : World) :
    Calls Try.prog 12 #[.int .i64 n, .int .i64 a, .int .i64 b] w fun e w' => e = .returned (.tuple #[.int .i64 (lenR n a b), .int .i64 (lenE n a b)]) ∧ w = w' := by
  unfold lenR lenE
  by_cases hs : Spd a b
  · by_cases hn : 0 ≤ n ∧ n ≤ 16777216
    · rw [if_pos ⟨hs, hn⟩, if_pos ⟨hs, hn⟩]
      have v1 := spd_t hs
      obtain ⟨⟨a1, a2⟩, ⟨b1, b2⟩, hg⟩ := hs
      obtain ⟨n1, n2⟩ := hn
      clear hg
      go_enter Try.func12, Try.ntmps12
      go_wp2_with (first | (go_at_call 23; refine (valid_any _ _ _).mono ?_; rintro e w' ⟨rfl, rfl⟩; rw [v1]) | (go_at_call 24; refine (rlength_any _ _ _ _ n1 n2 a1 a2 b1 b2).mono ?_; rintro e w' ⟨rfl, rfl⟩))
      go_ret2
      exact ⟨rfl, rfl⟩
    · rw [if_neg fun h => hn h.2, if_neg fun h => hn h.2]
      have v1 := spd_t hs
      clear hs
      rcases (show n < 0 ∨ (0 ≤ n ∧ 16777216 < n) by omega) with h1 | h1
      all_goals
        clear hn
        go_enter Try.func12, Try.ntmps12
        go_wp2_with (first | (go_at_call 23; refine (valid_any _ _ _).mono ?_; rintro e w' ⟨rfl, rfl⟩; rw [v1]))
        go_ret2
        exact ⟨rfl, rfl⟩
  · rw [if_neg fun h => hs h.1, if_neg fun h => hs h.1]
    have v1 := spd_f hs
    clear hs
    go_enter Try.func12, Try.ntmps12
    go_wp2_with (first | (go_at_call 23; refine (valid_any _ _ _).mono ?_; rintro e w' ⟨rfl, rfl⟩; rw [v1]))
    go_ret2
    exact ⟨rfl, rfl⟩

/-- The sample at q + r / b. -/
def sV (l : List Int) (q : Nat) (r b : Int) : Int := if r = 0 then clip (l.getD q 0) else lineV (l.getD q 0) (l.getD (q + 1) 0) r b

set_option maxHeartbeats 4000000 in
theorem sampler1_any (B1 B2 : Nat) (a : Option Addr) (b off n cap : Nat) (l : List Int) (q : Nat) (r bb : Int) (w : World) (h1 : w.heap[B1]? = some (.cells #[.slice a n cap] 22 (0, 0))) (h2 : w.heap[B2]? = some (.cells #[.int .i64 bb] 3 (0, 0)))
    (hR : Row w a b off n l) (hn : n ≤ 16777216) (hq : q < n) (hq1 : r ≠ 0 → q + 1 < n) (r0 : 0 ≤ r) (r1 : r ≤ bb) (b1 : 1 ≤ bb) (b2 : bb ≤ 64) :
    Calls Try.prog 29 #[.int .i64 q, .int .i64 r, .pointer (some ⟨B1, 0, none⟩), .pointer (some ⟨B2, 0, none⟩)] w fun e w' => e = .returned (.int .i64 (sV l q r bb)) ∧ Below w.heap.size w w' := by
  obtain rfl := hR.adr (by omega)
  have c1 := blk_cell h1 0; have c2 := blk_cell h2 0
  simp at c1 c2
  have e1 := hR.cel q hq
  unfold sV
  by_cases hr : r = 0
  · subst hr
    rw [if_pos rfl]
    generalize l.getD q 0 = x at *
    clear h1 h2 hR
    go_enter Try.func29, Try.ntmps29
    go_wp2_with (go_at_call 19; refine (clip_any _ _).mono ?_; rintro e w' ⟨rfl, rfl⟩)
    go_ret
    exact ⟨rfl, Below.refl _ _⟩
  · rw [if_neg hr]
    have hr1 : (r == 0) = false := by simpa using hr
    have e2 := hR.cel (q + 1) (hq1 hr)
    have lt1 : B1 < w.heap.size := (Array.getElem?_eq_some_iff.1 h1).1
    have lt2 : B2 < w.heap.size := (Array.getElem?_eq_some_iff.1 h2).1
    have lt3 : b < w.heap.size := hR.old (by omega)
    generalize l.getD q 0 = x at *
    generalize l.getD (q + 1) 0 = y at *
    have hq2 := hq1 hr
    have z1 : (0 : Int) ≤ (q : Int) := by omega
    have z2 : (q : Int) < (n : Int) := by omega
    have z3 : (q : Int) + 1 < (n : Int) := by omega
    have z4 : IntKind.i64.wrap ((q : Int) + 1) = (q : Int) + 1 := by rw [IntKind.wrap_i64]; omega
    have HR := Lib.hid (show _ ∧ _ from ⟨hr, hR⟩); clear h1 h2 hR hr hq1
    go_enter Try.func29, Try.ntmps29
    go_wp2_with fail
    refine wp_region_from 0 11 (fun w' => w'.cell? ⟨B1, 0, none⟩ = some (.slice (some ⟨b, off, none⟩) n cap) ∧ w'.cell? ⟨B2, 0, none⟩ = some (.int .i64 bb) ∧ w'.cell? ⟨b, off + q, none⟩ = some (.int .i64 x) ∧ w'.cell? ⟨b, off + (q + 1), none⟩ = some (.int .i64 y)) (by kernel_rfl) (by kernel_rfl) (by decide) (by kernel_rfl) ⟨c1, c2, e1, e2⟩ ?_
    simp only [List.drop_zero, List.take_succ_cons, List.take_zero]
    refine wpHeld_cons (.slice (some ⟨b, off, none⟩) n cap) (by kernel_rfl) ?_ ?_
    · rintro w' ⟨s0, s1, s2, s3⟩
      try go_simp
    refine wpHeld_cons (.int .i64 (q : Int)) (by kernel_rfl) ?_ ?_
    · rintro w' ⟨s0, s1, s2, s3⟩
      try go_simp
    refine wpHeld_cons (.pointer (some ⟨b, off + q, none⟩)) (by kernel_rfl) ?_ ?_
    · rintro w' ⟨s0, s1, s2, s3⟩
      try go_simp
    refine wpHeld_cons (.int .i64 x) (by kernel_rfl) ?_ ?_
    · rintro w' ⟨s0, s1, s2, s3⟩
      try go_simp
    refine wpHeld_cons (.slice (some ⟨b, off, none⟩) n cap) (by kernel_rfl) ?_ ?_
    · rintro w' ⟨s0, s1, s2, s3⟩
      try go_simp
    refine wpHeld_cons (.int .i64 (q : Int)) (by kernel_rfl) ?_ ?_
    · rintro w' ⟨s0, s1, s2, s3⟩
      try go_simp
    refine wpHeld_cons (.int .i64 ((q : Int) + 1)) (by kernel_rfl) ?_ ?_
    · rintro w' ⟨s0, s1, s2, s3⟩
      try go_simp
    refine wpHeld_cons (.pointer (some ⟨b, off + (q + 1), none⟩)) (by kernel_rfl) ?_ ?_
    · rintro w' ⟨s0, s1, s2, s3⟩
      go_simp
      first | done | (intro h; exfalso; omega)
    refine wpHeld_cons (.int .i64 y) (by kernel_rfl) ?_ ?_
    · rintro w' ⟨s0, s1, s2, s3⟩
      try go_simp
    refine wpHeld_cons (.int .i64 r) (by kernel_rfl) ?_ ?_
    · rintro w' ⟨s0, s1, s2, s3⟩
      try go_simp
    refine wpHeld_cons (.int .i64 bb) (by kernel_rfl) ?_ ?_
    · rintro w' ⟨s0, s1, s2, s3⟩
      try go_simp
    refine wpHeld_nil ?_
    go_simp
    refine wpAnyH_one (i := 11) (by kernel_rfl) rfl (by kernel_rfl) (fun K' hK' => ?_)
    go_simp
    refine (line_ok _ _ _ _ _ b1 (by omega) r0 r1).mono ?_
    rintro e w1 ⟨rfl, hb⟩
    have g1 := (hb.cell (p := ⟨B1, 0, none⟩) lt1).trans c1
    have g2 := (hb.cell (p := ⟨B2, 0, none⟩) lt2).trans c2
    have g3 := (hb.cell (p := ⟨b, off + q, none⟩) lt3).trans e1
    have g4 := (hb.cell (p := ⟨b, off + (q + 1), none⟩) lt3).trans e2
    refine hK' _ _ ⟨g1, g2, g3, g4⟩ ?_
    clear hK' K'
    refine wpAnyH_from 12 5 (fun _ _ _ _ _ h => h) (by kernel_rfl) (by decide) (by kernel_rfl) ⟨g1, g2, g3, g4⟩ ?_
    simp only [List.drop_succ_cons, List.drop_zero, List.take_succ_cons, List.take_zero]
    refine wpHeld_cons (.tuple #[.int .i64 (lineV x y r bb), .int .i64 0]) (by kernel_rfl) ?_ ?_
    · rintro w' ⟨s0, s1, s2, s3⟩
      try go_simp
    refine wpHeld_cons (.int .i64 (lineV x y r bb)) (by kernel_rfl) ?_ ?_
    · rintro w' ⟨s0, s1, s2, s3⟩
      try go_simp
    refine wpHeld_cons (.int .i64 0) (by kernel_rfl) ?_ ?_
    · rintro w' ⟨s0, s1, s2, s3⟩
      try go_simp
    refine wpHeld_cons (.int .i64 (lineV x y r bb)) (by kernel_rfl) ?_ ?_
    · rintro w' ⟨s0, s1, s2, s3⟩
      try go_simp
    refine wpHeld_cons (.int .i64 0) (by kernel_rfl) ?_ ?_
    · rintro w' ⟨s0, s1, s2, s3⟩
      try go_simp
    refine wpHeld_nil ?_
    go_simp
    refine wpAnyH_done (by kernel_rfl) ?_ _
    refine NoPanic.normal ?_
    go_wp2
    go_ret
    exact ⟨rfl, (Below.refl _ _ |>.drew).trans hb⟩

set_option maxHeartbeats 4000000 in
theorem rsample_any (a : Option Addr) (b off n cap : Nat) (l : List Int) (i aa bb : Int) (q : Nat) (r : Int) (w : World) (hR : Row w a b off n l) (hn : n ≤ 16777216) (hiq : i * aa / bb = (q : Int)) (hir : i * aa % bb = r) (p0 : 0 ≤ i * aa) (p1 : i * aa ≤ 1099511627776)
    (hq : q < n) (hq1 : r ≠ 0 → q + 1 < n) (r0 : 0 ≤ r) (r1 : r ≤ bb) (b1 : 1 ≤ bb) (b2 : bb ≤ 64) :
    Calls Try.prog 26 #[.slice a n cap, .int .i64 aa, .int .i64 bb, .int .i64 i] w fun e w' => e = .returned (.int .i64 (sV l q r bb)) ∧ Below w.heap.size w w' := by
  obtain rfl := hR.adr (by omega)
  have e1 := hR.cel q hq
  unfold sV
  by_cases hr : r = 0
  · subst hr
    rw [if_pos rfl]
    generalize l.getD q 0 = x at *
    clear hR
    go_enter Try.func26, Try.ntmps26
    go_wp2_with (go_at_call 31; refine (rclip_any _ _).mono ?_; rintro e w' ⟨rfl, rfl⟩)
    go_ret
    exact ⟨rfl, Below.refl _ _⟩
  · rw [if_neg hr]
    have hr1 : (r == 0) = false := by simpa using hr
    have e2 := hR.cel (q + 1) (hq1 hr)
    generalize l.getD q 0 = x at *
    generalize l.getD (q + 1) 0 = y at *
    have hq2 := hq1 hr
    have z1 : (0 : Int) ≤ (q : Int) := by omega
    have z2 : (q : Int) < (n : Int) := by omega
    have z3 : (q : Int) + 1 < (n : Int) := by omega
    have z4 : IntKind.i64.wrap ((q : Int) + 1) = (q : Int) + 1 := by rw [IntKind.wrap_i64]; omega
    have HR := Lib.hid (show _ ∧ _ from ⟨hr, hR⟩); clear hR hr hq1
    go_enter Try.func26, Try.ntmps26
    go_wp2_with fail
    refine wp_region_from 0 11 (fun w' => w'.cell? ⟨b, off + q, none⟩ = some (.int .i64 x) ∧ w'.cell? ⟨b, off + (q + 1), none⟩ = some (.int .i64 y)) (by kernel_rfl) (by kernel_rfl) (by decide) (by kernel_rfl) ⟨e1, e2⟩ ?_
    simp only [List.drop_zero, List.take_succ_cons, List.take_zero]
    refine wpHeld_cons (.slice (some ⟨b, off, none⟩) n cap) (by kernel_rfl) ?_ ?_
    · rintro w' ⟨s2, s3⟩
      try go_simp
    refine wpHeld_cons (.int .i64 (q : Int)) (by kernel_rfl) ?_ ?_
    · rintro w' ⟨s2, s3⟩
      try go_simp
    refine wpHeld_cons (.pointer (some ⟨b, off + q, none⟩)) (by kernel_rfl) ?_ ?_
    · rintro w' ⟨s2, s3⟩
      try go_simp
    refine wpHeld_cons (.int .i64 x) (by kernel_rfl) ?_ ?_
    · rintro w' ⟨s2, s3⟩
      try go_simp
    refine wpHeld_cons (.slice (some ⟨b, off, none⟩) n cap) (by kernel_rfl) ?_ ?_
    · rintro w' ⟨s2, s3⟩
      try go_simp
    refine wpHeld_cons (.int .i64 (q : Int)) (by kernel_rfl) ?_ ?_
    · rintro w' ⟨s2, s3⟩
      try go_simp
    refine wpHeld_cons (.int .i64 ((q : Int) + 1)) (by kernel_rfl) ?_ ?_
    · rintro w' ⟨s2, s3⟩
      try go_simp
    refine wpHeld_cons (.pointer (some ⟨b, off + (q + 1), none⟩)) (by kernel_rfl) ?_ ?_
    · rintro w' ⟨s2, s3⟩
      go_simp
      first | done | (intro h; exfalso; omega)
    refine wpHeld_cons (.int .i64 y) (by kernel_rfl) ?_ ?_
    · rintro w' ⟨s2, s3⟩
      try go_simp
    refine wpHeld_cons (.int .i64 r) (by kernel_rfl) ?_ ?_
    · rintro w' ⟨s2, s3⟩
      try go_simp
    refine wpHeld_cons (.int .i64 bb) (by kernel_rfl) ?_ ?_
    · rintro w' ⟨s2, s3⟩
      try go_simp
    refine wpHeld_nil ?_
    go_simp
    refine wpAnyH_one (i := 11) (by kernel_rfl) rfl (by kernel_rfl) (fun K' hK' => ?_)
    go_simp
    refine (rline_ok _ _ _ _ _ ⟨b1, by omega, r0, r1⟩).mono ?_
    rintro e w1 ⟨rfl, rfl⟩
    refine hK' _ _ ⟨e1, e2⟩ ?_
    clear hK' K'
    refine wpAnyH_from 12 5 (fun _ _ _ _ _ h => h) (by kernel_rfl) (by decide) (by kernel_rfl) ⟨e1, e2⟩ ?_
    simp only [List.drop_succ_cons, List.drop_zero, List.take_succ_cons, List.take_zero]
    refine wpHeld_cons (.tuple #[.int .i64 (lineV x y r bb), .int .i64 0]) (by kernel_rfl) ?_ ?_
    · rintro w' ⟨s2, s3⟩
      try go_simp
    refine wpHeld_cons (.int .i64 (lineV x y r bb)) (by kernel_rfl) ?_ ?_
    · rintro w' ⟨s2, s3⟩
      try go_simp
    refine wpHeld_cons (.int .i64 0) (by kernel_rfl) ?_ ?_
    · rintro w' ⟨s2, s3⟩
      try go_simp
    refine wpHeld_cons (.int .i64 (lineV x y r bb)) (by kernel_rfl) ?_ ?_
    · rintro w' ⟨s2, s3⟩
      try go_simp
    refine wpHeld_cons (.int .i64 0) (by kernel_rfl) ?_ ?_
    · rintro w' ⟨s2, s3⟩
      try go_simp
    refine wpHeld_nil ?_
    go_simp
    refine wpAnyH_done (by kernel_rfl) ?_ _
    refine NoPanic.normal ?_
    go_wp2
    go_ret
    exact ⟨rfl, (Below.refl _ _).drew⟩
end Go.Proofs.Ytipjogicjgkgjaa
