/- Bars of changes or parts that are not valid, and all together (layer 10). -/
import Derived.Test.YtkgimglkiniofaaMetreRBars
namespace Go.Proofs.Ytkgimglkiniofaa
open Go.RowKit Go.Shelf

set_option maxRecDepth 100000 in
set_option maxHeartbeats 4000000 in
theorem bars_no (a : Option Addr) (b off len cap : Nat) (l : List Mt) (fr to : Int) (w : World) (r : Int) (hch : (¬ Changes l ∧ r = 100) ∨ (Changes l ∧ ¬ (0 ≤ fr ∧ fr ≤ to ∧ to ≤ 16777216) ∧ r = 1)) (hM : Ms w a len b off l) (hn : len ≤ 9223372036854775807) :
    CallsIn Fence.wide 5 Try.prog 17 #[.slice a len cap, .int .i64 fr, .int .i64 to] w fun e w' => Below w.heap.size w w' ∧ e = .returned (.tuple #[.slice none 0 0, .int .i64 r]) := by
  have hro : Fence.wide.round = none := rfl
  refine callsIn_of_wp_marks Try.func17 rfl trivial ?_ hro
  simp only [Try.ntmps17, List.size_toArray, List.length_cons, List.length_nil, Nat.reduceAdd, Nat.reduceSub, Array.replicate_succ, Array.replicate_zero, List.push_toArray, List.append_toArray, List.nil_append, List.cons_append]
  obtain ⟨w0, hw0⟩ : ∃ w0, w0 = (((w.alloc (.cells #[.int .i64 fr] 3)).alloc (.cells #[.int .i64 to] 3)).alloc (.cells #[.slice none 0 0] 31)) := ⟨_, rfl⟩
  have hB0 : Below w.heap.size w w0 := by rw [hw0]; go_grown
  have hM0 := hM.grown hB0
  gi_wp2
  refine ⟨trivial, ?_⟩
  have z0 : w0.heap.size = w.heap.size + 3 := by rw [hw0]; simp
  have k0 : w0.heap[w.heap.size]? = some (.cells #[.int .i64 fr] 3 (0, 0)) := by rw [hw0]; exact blk_alloc (blk_alloc (blk_new w _) _) _
  have k1 : w0.heap[w.heap.size + 1]? = some (.cells #[.int .i64 to] 3 (0, 0)) := by rw [hw0]; have := blk_new (w.alloc (.cells #[.int .i64 fr] 3)) (.cells #[.int .i64 to] 3); rw [World.size_alloc] at this; exact blk_alloc this _
  have k2 : w0.heap[w.heap.size + 1 + 1]? = some (.cells #[.slice none 0 0] 31 (0, 0)) := by rw [hw0]; have := blk_new ((w.alloc (.cells #[.int .i64 fr] 3)).alloc (.cells #[.int .i64 to] 3)) (.cells #[.slice none 0 0] 31); rw [World.size_alloc, World.size_alloc] at this; exact this
  rw [← hw0]
  refine (callsIn_wide.2 (mcheck_any _ _ _ b off l _ hM0 hn)).mono ?_
  rintro e w1 ⟨rfl, hb1⟩
  replace k0 := blk_below k0 hb1 (by omega)
  replace k1 := blk_below k1 hb1 (by omega)
  replace k2 := blk_below k2 hb1 (by omega)
  have z1 := hb1.size
  have B1 := below_after hB0 hb1 (by omega)
  have c0 := blk_cell k0 0; have c1 := blk_cell k1 0
  have c2 := blk_cell k2 0; have f2 := blk_free k2 0
  simp at c0 c1 c2 f2
  have t2 : (w1.setCell ⟨w.heap.size + 1 + 1, 0, none⟩ (.slice none 0 0)).cell? ⟨w.heap.size + 1 + 1, 0, none⟩ = some (.slice none 0 0) := blk_cell (one_setCell k2) 0
  have BS := B1.setCell (p := ⟨w.heap.size + 1 + 1, 0, none⟩) (show w.heap.size ≤ w.heap.size + 1 + 1 by omega) (.slice none 0 0)
  have K0 := Lib.hid (show _ ∧ _ ∧ _ from ⟨k0, k1, k2⟩)
  have T2 := Lib.hid (show _ ∧ _ from ⟨t2, BS⟩)
  clear k0 k1 k2 hb1 hw0 t2 BS
  rcases hch with ⟨hch, rfl⟩ | ⟨hch, hne, rfl⟩
  · rw [chk_no hch]
    gi_wp2
    exact ⟨.tuple #[.slice none 0 0, .int .i64 100], by have := T2.out.1; simp [results, Try.results17, go_sem, this], T2.out.2, rfl⟩
  · rw [chk_yes hch]
    by_cases q1 : fr < 0
    · have g1 : decide (fr < 0) = true := decide_eq_true q1
      gi_wp2
      exact ⟨.tuple #[.slice none 0 0, .int .i64 1], by have := T2.out.1; simp [results, Try.results17, go_sem, this], T2.out.2, rfl⟩
    have g1 : decide (fr < 0) = false := decide_eq_false q1
    by_cases q2 : to < fr
    · have g2 : decide (to < fr) = true := decide_eq_true q2
      gi_wp2
      exact ⟨.tuple #[.slice none 0 0, .int .i64 1], by have := T2.out.1; simp [results, Try.results17, go_sem, this], T2.out.2, rfl⟩
    have g2 : decide (to < fr) = false := decide_eq_false q2
    have q3 : 16777216 < to := by omega
    have g3 : decide (16777216 < to) = true := decide_eq_true q3
    gi_wp2
    exact ⟨.tuple #[.slice none 0 0, .int .i64 1], by have := T2.out.1; simp [results, Try.results17, go_sem, this], T2.out.2, rfl⟩

/-- What Bars answers: the error and the ticks. -/
def BarsRes (l : List Mt) (fr to r : Int) (A : List Int) : Prop :=
  (¬ Changes l ∧ r = 100 ∧ A = []) ∨ (Changes l ∧ ¬ (0 ≤ fr ∧ fr ≤ to ∧ to ≤ 16777216) ∧ r = 1 ∧ A = []) ∨ (Changes l ∧ (0 ≤ fr ∧ fr ≤ to ∧ to ≤ 16777216) ∧ r = bIsE l fr to ∧ A = bIs l fr to)
theorem barsRes_len {l : List Mt} {fr to r : Int} {A : List Int} (h : BarsRes l fr to r A) : A.length ≤ 4096 := by
  rcases h with ⟨_, _, rfl⟩ | ⟨_, _, _, rfl⟩ | ⟨_, _, _, rfl⟩
  · simp
  · simp
  · unfold bIs barsR; split
    · assumption
    · simp

theorem bars_any (a : Option Addr) (b off len cap : Nat) (l : List Mt) (fr to : Int) (w : World) (hM : Ms w a len b off l) (hn : len ≤ 9223372036854775807) (hb : 0 < len → ∃ c tb fr, w.heap[b]? = some (.cells c tb fr)) :
    Calls Try.prog 17 #[.slice a len cap, .int .i64 fr, .int .i64 to] w fun e w' => Below w.heap.size w w' ∧ ∃ v r A, BarsRes l fr to r A ∧ e = .returned (.tuple #[v, .int .i64 r]) ∧ Ints w' w.heap.size v A := by
  by_cases hch : Changes l
  · by_cases ht : 0 ≤ fr ∧ fr ≤ to ∧ to ≤ 16777216
    · refine (bars_ok a b off len cap l fr to w hch hM hb ht.1 ht.2.1 ht.2.2).mono ?_
      rintro e w' ⟨hB, v, rfl, hI⟩
      exact ⟨hB, v, _, _, .inr (.inr ⟨hch, ht, rfl, rfl⟩), rfl, hI⟩
    · refine (callsIn_wide.1 (bars_no a b off len cap l fr to w 1 (.inr ⟨hch, ht, rfl⟩) hM hn)).mono ?_
      rintro e w' ⟨hB, rfl⟩
      exact ⟨hB, _, _, _, .inr (.inl ⟨hch, ht, rfl, rfl⟩), rfl, Ints.nil _ _⟩
  · refine (callsIn_wide.1 (bars_no a b off len cap l fr to w 100 (.inl ⟨hch, rfl⟩) hM hn)).mono ?_
    rintro e w' ⟨hB, rfl⟩
    exact ⟨hB, _, _, _, .inl ⟨hch, rfl, rfl⟩, rfl, Ints.nil _ _⟩

set_option maxHeartbeats 4000000 in
theorem rbars_any (a : Option Addr) (b off len cap : Nat) (l : List Mt) (fr to r : Int) (A : List Int) (w : World) (hM : Ms w a len b off l) (hn : len ≤ 9223372036854775807) (hT : BarsRes l fr to r A) :
    Calls Try.prog 18 #[.slice a len cap, .int .i64 fr, .int .i64 to] w fun e w' => ∃ v, e = .returned (.tuple #[v, .int .i64 r]) ∧ Ints w' w.heap.size v A ∧ Below w.heap.size w w' := by
  have HM := Lib.hid hM; clear hM
  rcases hT with ⟨hch, rfl, rfl⟩ | ⟨hch, ht, rfl, rfl⟩ | ⟨hch, ht, rfl, rfl⟩
  · have e := chk_no hch
    clear hch
    go_enter Try.func18, Try.ntmps18
    go_wp2_with fail
    refine (rmcheck_any a len cap b off l _ HM.out hn).mono ?_; rintro e w2 ⟨rfl, hB⟩; rw [e]
    go_wp2
    exact bodyPost_ret (by simp [results, Try.results18, go_sem]) rfl ⟨_, rfl, Ints.nil _ _, hB⟩
  · have e := chk_yes hch
    clear hch
    by_cases q1 : fr < 0
    · go_enter Try.func18, Try.ntmps18
      go_wp2_with fail
      refine (rmcheck_any a len cap b off l _ HM.out hn).mono ?_; rintro e w2 ⟨rfl, hB⟩; rw [e]
      go_wp2
      exact bodyPost_ret (by simp [results, Try.results18, go_sem]) rfl ⟨_, rfl, Ints.nil _ _, hB⟩
    by_cases q2 : to < fr
    · go_enter Try.func18, Try.ntmps18
      go_wp2_with fail
      refine (rmcheck_any a len cap b off l _ HM.out hn).mono ?_; rintro e w2 ⟨rfl, hB⟩; rw [e]
      go_wp2
      exact bodyPost_ret (by simp [results, Try.results18, go_sem]) rfl ⟨_, rfl, Ints.nil _ _, hB⟩
    have q3 : 16777216 < to := by omega
    go_enter Try.func18, Try.ntmps18
    go_wp2_with fail
    refine (rmcheck_any a len cap b off l _ HM.out hn).mono ?_; rintro e w2 ⟨rfl, hB⟩; rw [e]
    go_wp2
    exact bodyPost_ret (by simp [results, Try.results18, go_sem]) rfl ⟨_, rfl, Ints.nil _ _, hB⟩
  · exact rbars_ok a b off len cap l fr to w HM.out hn hch ht.1 ht.2.1 ht.2.2
end Go.Proofs.Ytkgimglkiniofaa
