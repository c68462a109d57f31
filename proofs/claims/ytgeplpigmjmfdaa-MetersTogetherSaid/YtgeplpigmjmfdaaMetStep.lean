/- The contract of what 'holder' hands back (layer 52). -/
import Derived.Test.YtgeplpigmjmfdaaMetHold
import Derived.Deep.RegionWith
import Derived.BigRegion
namespace Go.Proofs.Ytgeplpigmjmfdaa
open Go.ChangeShapes Go.WideShapes Go.ChangeAt Go.RowKit

/-- All blocks but H are as they were. -/
structure Upd (H : Nat) (w w' : World) : Prop where
  os : w'.os = w.os
  tape : w'.tape = w.tape
  output : w'.output = w.output
  size : w.heap.size ≤ w'.heap.size
  block : ∀ k, k < w.heap.size → k ≠ H → w'.heap[k]? = w.heap[k]?
theorem Upd.of_below {H : Nat} {w w' : World} (h : Below w.heap.size w w') : Upd H w w' := ⟨h.os, h.tape, h.output, h.size, fun k hk _ => h.block k hk⟩
theorem Upd.setCell {H : Nat} {w w' : World} (h : Upd H w w') (v : Value) : Upd H w (w'.setCell ⟨H, 0, none⟩ v) :=
  ⟨h.os, h.tape, h.output, by simpa using h.size, fun k hk hn => (Below.heap_setCell _ _ _ _ hn).trans (h.block k hk hn)⟩
theorem Upd.drew {H : Nat} {w w' : World} (h : Upd H w w') : Upd H w w'.drew := ⟨h.os, h.tape, h.output, h.size, h.block⟩
theorem Upd.drew0 {H : Nat} {w w' : World} (h : Upd H w.drew w') : Upd H w w' := ⟨h.os, h.tape, h.output, h.size, h.block⟩
theorem Upd.below {H B : Nat} {a w w' : World} (h : Upd H w w') (hb : Below B a w) (hB : B ≤ H) (hs : B ≤ w.heap.size) : Below B a w' :=
  hb.trans ⟨h.os, h.tape, h.output, h.size, fun k hk => h.block k (by omega) (by omega)⟩

theorem alloc_upd {H : Nat} (w : World) (o : Obj) : Upd H w (w.alloc o) := ⟨rfl, rfl, rfl, by simp, fun k hk _ => Below.heap_alloc w o k hk⟩
theorem Upd.step {H : Nat} {a b c d : World} (h : Upd H a b) (k : Upd H b c) (m : Upd H c d) : Upd H a d :=
  ⟨m.os.trans (k.os.trans h.os), m.tape.trans (k.tape.trans h.tape), m.output.trans (k.output.trans h.output), Nat.le_trans h.size (Nat.le_trans k.size m.size), fun i hi hn =>
    (m.block i (Nat.lt_of_lt_of_le hi (Nat.le_trans h.size k.size)) hn).trans ((k.block i (Nat.lt_of_lt_of_le hi h.size) hn).trans (h.block i hi hn))⟩
theorem wrap_id {n : Int} (h : -9223372036854775808 ≤ n ∧ n ≤ 9223372036854775807) : IntKind.i64.wrap n = n := by
  rw [IntKind.wrap_i64]; omega

set_option maxHeartbeats 4000000 in
theorem step_any (H G : Nat) (x y f : Int) (w : World) (hH : w.heap[H]? = some (.cells #[.int .i64 y] 3 (0, 0))) (hG : w.heap[G]? = some (.cells #[.int .i64 f] 3 (0, 0)))
    (y0 : 0 ≤ y) (y1 : y ≤ 2147483648) (f0 : 0 ≤ f) (f1 : f ≤ 2147483648) :
    Calls Try.prog 31 #[.int .i64 x, .pointer (some ⟨H, 0, none⟩), .pointer (some ⟨G, 0, none⟩)] w fun e w' => e = .returned (.int .i64 (max (max (sizeV x) (y - f)) 0)) ∧ w'.heap[H]? = some (.cells #[.int .i64 (max (max (sizeV x) (y - f)) 0)] 3 (0, 0)) ∧ Upd H w w' := by
  have cH := blk_cell hH 0; have cG := blk_cell hG 0; have fH := blk_free hH 0
  simp at cH cG fH
  have hlH : H < w.heap.size := (Array.getElem?_eq_some_iff.1 hH).1
  have hlG : G < w.heap.size := (Array.getElem?_eq_some_iff.1 hG).1
  have hwr : IntKind.i64.wrap (y - f) = y - f := wrap_id (by omega)
  have HH := Lib.hid hH; have HG := Lib.hid hG; clear hH hG
  go_enter Try.func31, Try.ntmps31
  go_wp2_with fail
  go_region_with (first | (go_at_call 26; refine (size_any _ (w.alloc (.cells #[.int .i64 (y - f), .int .i64 0] 3)).drew).mono ?_; rintro e w1 ⟨rfl, hb1⟩; have d6 : H < w1.heap.size := Nat.lt_of_lt_of_le (by simp; omega) hb1.size; have d1 : w1.cell? ⟨H, 0, none⟩ = some (.int .i64 y) := (hb1.cell (p := ⟨H, 0, none⟩) (by simp; omega)).trans (by go_cell); have d2 : w1.cell? ⟨G, 0, none⟩ = some (.int .i64 f) := (hb1.cell (p := ⟨G, 0, none⟩) (by simp; omega)).trans (by go_cell); have d3 : w1.frozen? ⟨H, 0, none⟩ = false := (hb1.frozen (p := ⟨H, 0, none⟩) (by simp; omega)).trans (by go_cell); have d4 : w1.cell? ⟨w.heap.size, 0, none⟩ = some (.int .i64 (y - f)) := (hb1.cell (p := ⟨w.heap.size, 0, none⟩) (by simp)).trans (by go_cell); have d5 : w1.cell? ⟨w.heap.size, 1, none⟩ = some (.int .i64 0) := (hb1.cell (p := ⟨w.heap.size, 1, none⟩) (by simp)).trans (by go_cell)) | (go_at_call 26; refine (size_any _ w.drew).mono ?_; rintro e w1 ⟨rfl, hb1⟩; have d6 : H < w1.heap.size := Nat.lt_of_lt_of_le hlH hb1.size; have d1 : w1.cell? ⟨H, 0, none⟩ = some (.int .i64 y) := (hb1.cell (p := ⟨H, 0, none⟩) (by simp; omega)).trans (by go_cell); have d2 : w1.cell? ⟨G, 0, none⟩ = some (.int .i64 f) := (hb1.cell (p := ⟨G, 0, none⟩) (by simp; omega)).trans (by go_cell); have d3 : w1.frozen? ⟨H, 0, none⟩ = false := (hb1.frozen (p := ⟨H, 0, none⟩) (by simp; omega)).trans (by go_cell)) | (go_at_call 25; refine (greatest_any _ _ _ _ [y - f, 0] _ (by omega) (by intro i hi; match i, hi with | 0, _ => go_cell | 1, _ => go_cell)).mono ?_; rintro e w' ⟨rfl, rfl⟩))
  all_goals rw [show maxTo (sizeV x) [y - f, 0] 2 = max (max (sizeV x) (y - f)) 0 from rfl]
  all_goals generalize hm : max (max (sizeV x) (y - f)) 0 = m at *
  all_goals first
    | (have kH := (hb1.block H (show H < (w.alloc (.cells #[.int .i64 (y - f), .int .i64 0] 3)).heap.size by simp; omega)).trans (blk_alloc HH.out (.cells #[.int .i64 (y - f), .int .i64 0] 3))
       have U : Upd H w w1 := (Upd.of_below (Below.refl _ w)).step (alloc_upd w (.cells #[.int .i64 (y - f), .int .i64 0] 3)) ⟨hb1.os, hb1.tape, hb1.output, hb1.size, fun k hk _ => hb1.block k hk⟩
       have eH : (w1.setCell ⟨H, 0, none⟩ (.int .i64 m)).heap[H]? = some (.cells #[.int .i64 m] 3 (0, 0)) := one_setCell kH
       have c0 := blk_cell eH 0
       simp at c0
       clear d1 d2 d3 d6 cH cG fH
       go_wp2
       go_ret
       subst hm
       exact ⟨rfl, eH, U.setCell _⟩)
    | (have kH := (hb1.block H hlH).trans HH.out
       have U : Upd H w w1 := ⟨hb1.os, hb1.tape, hb1.output, hb1.size, fun k hk _ => hb1.block k hk⟩
       have eH0 : (w1.setCell ⟨H, 0, none⟩ (.int .i64 m)).heap[H]? = some (.cells #[.int .i64 m] 3 (0, 0)) := one_setCell kH
       have eH := blk_alloc eH0 (.cells #[.int .i64 (y - f), .int .i64 0] 3)
       have c0 := blk_cell eH 0
       simp at c0
       clear d1 d2 d3 d6 cH cG fH
       go_wp2
       go_ret
       subst hm
       exact ⟨rfl, eH, (U.setCell _).step (alloc_upd _ _) ⟨rfl, rfl, rfl, Nat.le_refl _, fun _ _ _ => rfl⟩⟩)
end Go.Proofs.Ytgeplpigmjmfdaa
