/- The closure links.Check$2: does the way back end (layer 13). -/
import Derived.Test.YthncfhfnboocmaaLnkSrc
namespace Go.Proofs.Ythncfhfnboocmaa
open Go.ChangeShapes Go.WideShapes Go.ChangeAt Go.RowKit

def endB (l : List Jt) (n : Nat) (p : Int) : Bool := decide (bks l n (some p) = none)
theorem lookJ_wf {l : List Jt} {n : Nat} (h : ∀ i, i < n → wfJ (nthJ l i)) (p : Int) : wfJ (lookJ l p n) := by
  unfold lookJ
  have := srcN_le l p n
  split
  · exact ⟨by decide, by decide, by decide, by decide, by decide⟩
  · exact h _ (by omega)
theorem bk_zero {l : List Jt} {n : Nat} (hl : l.length = n) {p : Int} (h : srcN l p n = 0) : bk l p = none := by subst hl; unfold bk; rw [if_pos h]
theorem bk_pos {l : List Jt} {n : Nat} (hl : l.length = n) {p : Int} (h : srcN l p n ≠ 0) : bk l p = some (lookJ l p n).1 := by subst hl; unfold bk lookJ; rw [if_neg h, if_neg h]
theorem ownsMap_box {w : World} {mb n b : Nat} {D : DataW Value} {k : TypeId} {R : Value → Option (DataW Value × List MemPlace)} (h : w.ownsMap Try.prog k R mb n D) (hb : mb ≠ b) (u0 u1 u2 u3 u4 : Value) :
    (((((w.setCell ⟨b, 0, none⟩ u0).setCell ⟨b, 1, none⟩ u1).setCell ⟨b, 2, none⟩ u2).setCell ⟨b, 3, none⟩ u3).setCell ⟨b, 4, none⟩ u4).ownsMap Try.prog k R mb n D :=
  ((((h.setCell (a := ⟨b, 0, none⟩) hb u0).setCell (a := ⟨b, 1, none⟩) hb u1).setCell (a := ⟨b, 2, none⟩) hb u2).setCell (a := ⟨b, 3, none⟩) hb u3).setCell (a := ⟨b, 4, none⟩) hb u4

set_option maxRecDepth 100000 in
set_option maxHeartbeats 4000000 in
theorem ends_any (L S mb : Nat) (a : Option Addr) (n cap : Nat) (l : List Jt) (x : Jt) (w : World)
    (hL : w.heap[L]? = some (.cells #[.slice a n cap] 22 (0, 0))) (hS : w.heap[S]? = some (.cells #[.map (some mb)] 43 (0, 0)))
    (hown : w.ownsMap Try.prog 3 selfElem mb n (mapJ l n)) (hl : l.length = n) (hn : n ≤ 256) (hwl : ∀ i, i < n → wfJ (nthJ l i)) (hx : wfJ x) :
    Calls Try.prog 24 #[vJ x, .pointer (some ⟨L, 0, none⟩), .pointer (some ⟨S, 0, none⟩)] w fun e w' => e = .returned (.bool (endB l n x.1)) ∧ Below w.heap.size w w' := by
  obtain ⟨x0, x1, x2, x3, x4⟩ := x
  have hmb := hown.lt
  have hSl : S < w.heap.size := (Array.getElem?_eq_some_iff.1 hS).1
  have hB := (Below.refl w.heap.size w).alloc (Nat.le_refl _) (.cells #[.int .i64 x0, .int .i64 x1, .int .i64 x2, .int .i64 x3, .int .i64 x4] 34)
  have c0 := cell_alloc_keep (blk_cell hL 0) (.cells #[.int .i64 x0, .int .i64 x1, .int .i64 x2, .int .i64 x3, .int .i64 x4] 34)
  simp at c0
  have HK := Lib.hid (show _ ∧ _ ∧ _ ∧ _ ∧ _ from ⟨hS, hown, hwl, hx, hB⟩)
  clear hL hS hown hwl hx hB
  unfold vJ
  dsimp only
  go_enter Try.func24, Try.ntmps24
  go_wp2
  go_loopw [9] (fun i wr => ∃ k : Nat, ∃ y : Jt, k ≤ n ∧ i = .int .i64 k ∧ wr.heap[w.heap.size]? = some (.cells #[.int .i64 y.1, .int .i64 y.2.1, .int .i64 y.2.2.1, .int .i64 y.2.2.2.1, .int .i64 y.2.2.2.2] 34 (0, 0)) ∧ bks l k (some x0) = some y.1 ∧ wfJ y ∧ wr.ownsMap Try.prog 3 selfElem mb n (mapJ l n) ∧ Below w.heap.size w wr) (fun i _ => n - (intOf i).toNat)
  case atStart => exact ⟨0, (x0, x1, x2, x3, x4), Nat.zero_le _, rfl, blk_new _ _, rfl, HK.out.2.2.2.1, HK.out.2.1.alloc _, HK.out.2.2.2.2⟩
  case round =>
    obtain ⟨k, ⟨y0, y1, y2, y3, y4⟩, hk, rfl, hblk, hbk, hy, hown, hb⟩ := hrel
    clear c0
    dsimp only at hblk hbk
    by_cases hlt : k < n
    case neg =>
      obtain rfl : k = n := by omega
      have EB := Lib.hid (show endB l k x0 = false from decide_eq_false (by rw [hbk]; exact fun h => by cases h))
      clear hblk hbk hown
      go_wp2
      go_ret
      exact ⟨by rw [EB.out]; rfl, hb⟩
    have hz := hb.size
    have cS := blk_cell (blk_below HK.out.1 hb hSl) 0
    simp at cS
    have c1 := blk_cell hblk 0
    simp at c1
    have hlk := lkLook hown y0 hy.1
    have i2 : (k : Int) < (n : Int) := by omega
    have uk : IntKind.i64.wrap ((k : Int) + 1) = (k : Int) + 1 := wrap_id (by omega)
    by_cases hs : srcN l y0 n = 0
    case pos =>
      have hd : decide (0 < srcN l y0 n) = false := decide_eq_false (by omega)
      rw [hd] at hlk
      have EB := Lib.hid (show endB l n x0 = true from decide_eq_true (bks_mono (a := k + 1) (by omega) (by rw [bks_succ, hbk]; exact bk_zero hl hs)))
      clear hbk hown hs hd hblk
      have hb2 := hb.alloc hz (.cells #[.int .i64 (lookJ l y0 n).1, .int .i64 (lookJ l y0 n).2.1, .int .i64 (lookJ l y0 n).2.2.1, .int .i64 (lookJ l y0 n).2.2.2.1, .int .i64 (lookJ l y0 n).2.2.2.2] 34)
      go_wp2
      go_ret
      exact ⟨by rw [EB.out]; rfl, hb2⟩
    have hd : decide (0 < srcN l y0 n) = true := decide_eq_true (by omega)
    rw [hd] at hlk
    have hwf := lookJ_wf HK.out.2.2.1 y0
    have hbk2 : bks l (k + 1) (some x0) = some (lookJ l y0 n).1 := by rw [bks_succ, hbk]; exact bk_pos hl hs
    generalize lookJ l y0 n = z at *
    obtain ⟨z0, z1, z2, z3, z4⟩ := z
    have d1 := blk_cell hblk 1
    have d2 := blk_cell hblk 2
    have d3 := blk_cell hblk 3
    have d4 := blk_cell hblk 4
    simp at d1 d2 d3 d4
    have f0 := blk_free hblk 0
    have f1 := blk_free hblk 1
    have f2 := blk_free hblk 2
    have f3 := blk_free hblk 3
    have f4 := blk_free hblk 4
    have hszl : w.heap.size < wr.heap.size := (Array.getElem?_eq_some_iff.1 hblk).1
    have hb2 := boxJ_below (b := w.heap.size) (u0 := .int .i64 z0) (u1 := .int .i64 z1) (u2 := .int .i64 z2) (u3 := .int .i64 z3) (u4 := .int .i64 z4) (Nat.le_refl _) hb
    have HO := Lib.hid (show _ ∧ _ ∧ _ ∧ _ ∧ _ from ⟨blk_alloc (boxJ_set (u0 := .int .i64 z0) (u1 := .int .i64 z1) (u2 := .int .i64 z2) (u3 := .int .i64 z3) (u4 := .int .i64 z4) hblk) (.cells #[.int .i64 z0, .int .i64 z1, .int .i64 z2, .int .i64 z3, .int .i64 z4] 34), hbk2, hwf, (ownsMap_box (b := w.heap.size) hown (Nat.ne_of_lt hmb) (.int .i64 z0) (.int .i64 z1) (.int .i64 z2) (.int .i64 z3) (.int .i64 z4)).alloc (.cells #[.int .i64 z0, .int .i64 z1, .int .i64 z2, .int .i64 z3, .int .i64 z4] 34), hb2.alloc hb2.size (.cells #[.int .i64 z0, .int .i64 z1, .int .i64 z2, .int .i64 z3, .int .i64 z4] 34)⟩)
    clear hblk hbk hbk2 hwf hy hown hb2 hb hs hd
    unfold vJ at hlk
    dsimp only at hlk
    go_wp2
    go_roundw
    case rel => exact ⟨k + 1, (z0, z1, z2, z3, z4), by omega, by go_num, HO.out.1, HO.out.2.1, HO.out.2.2.1, HO.out.2.2.2.1, HO.out.2.2.2.2⟩
    case measure => simp [intOf]; omega
end Go.Proofs.Ythncfhfnboocmaa
