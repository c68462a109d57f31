/- The reference's Of (layer 10), and what Tick answers around a bar. -/
import Derived.Test.YtkgimglkiniofaaOpen3
namespace Go.Proofs.Ytkgimglkiniofaa
open Go.ChangeShapes Go.WideShapes Go.ChangeAt Go.RowKit

/-- Which of the first i changes holds at a bar. -/
def ofK (l : List Mt) (bar : Int) : Nat → Nat
  | 0 => 0
  | i + 1 => if (nthM l i).1 ≤ bar then i else ofK l bar i
theorem ofK_in {l : List Mt} (h : Changes l) {bar : Int} (h0 : 0 ≤ bar) : ∀ i, 1 ≤ i → i ≤ l.length → ofK l bar i < i ∧ (nthM l (ofK l bar i)).1 ≤ bar ∧ ∀ j, ofK l bar i < j → j < i → bar < (nthM l j).1 := by
  intro i
  induction i with
  | zero => intro h1; omega
  | succ i ih =>
    intro _ hi
    unfold ofK
    by_cases hc : (nthM l i).1 ≤ bar
    · rw [if_pos hc]
      exact ⟨by omega, hc, fun j h1 h2 => by omega⟩
    · rw [if_neg hc]
      have hi1 : 1 ≤ i := by
        rcases Nat.eq_zero_or_pos i with e | e
        · subst e; rw [h.2.2.1] at hc; omega
        · exact e
      obtain ⟨a1, a2, a3⟩ := ih hi1 (by omega)
      refine ⟨by omega, a2, fun j h1 h2 => ?_⟩
      by_cases e : j = i
      · subst e; omega
      · exact a3 j h1 (by omega)
theorem ofK_end {l : List Mt} (h : Changes l) {bar : Int} (h0 : 0 ≤ bar) (h1 : bar ≤ 1048576) : ofK l bar l.length < l.length ∧ (nthM l (ofK l bar l.length)).1 ≤ bar ∧ bar < endOf l (ofK l bar l.length) := by
  obtain ⟨a1, a2, a3⟩ := ofK_in h h0 l.length h.1 (Nat.le_refl _)
  refine ⟨a1, a2, ?_⟩
  unfold endOf
  by_cases e : ofK l bar l.length + 1 < l.length
  · rw [if_pos e]; exact a3 _ (by omega) e
  · rw [if_neg e]; omega

theorem cells_set {w : World} {b i : Nat} {cs : Array Value} {v : Value} {t : TypeId} (h : w.heap[b]? = some (.cells cs t (0, 0))) : (w.setCell ⟨b, i, none⟩ v).heap[b]? = some (.cells (cs.setIfInBounds i v) t (0, 0)) := by
  have hlt := (Array.getElem?_eq_some_iff.1 h).1
  have h' : w.heap[b] = .cells cs t (0, 0) := (Array.getElem?_eq_some_iff.1 h).2
  show (w.heap.modify b _)[b]? = _
  rw [Array.getElem?_eq_getElem (by simpa using hlt), Array.getElem_modify_self, h']
  rfl
theorem three_set {w : World} {b : Nat} {x y z u v s : Value} {t : TypeId} (h : w.heap[b]? = some (.cells #[x, y, z] t (0, 0))) : (((w.setCell ⟨b, 0, none⟩ u).setCell ⟨b, 1, none⟩ v).setCell ⟨b, 2, none⟩ s).heap[b]? = some (.cells #[u, v, s] t (0, 0)) :=
  cells_set (cells_set (cells_set h))
theorem three_far {w : World} {b q : Nat} {u v s : Value} {o : Obj} (hq : q ≠ b) (h : w.heap[q]? = some o) : (((w.setCell ⟨b, 0, none⟩ u).setCell ⟨b, 1, none⟩ v).setCell ⟨b, 2, none⟩ s).heap[q]? = some o :=
  (Below.heap_setCell _ _ _ _ hq).trans ((Below.heap_setCell _ _ _ _ hq).trans ((Below.heap_setCell _ _ _ _ hq).trans h))
theorem three_below {B : Nat} {a w : World} {b : Nat} {u v s : Value} (hb : B ≤ b) (h : Below B a w) : Below B a (((w.setCell ⟨b, 0, none⟩ u).setCell ⟨b, 1, none⟩ v).setCell ⟨b, 2, none⟩ s) :=
  ((h.setCell (p := ⟨b, 0, none⟩) hb _).setCell (p := ⟨b, 1, none⟩) hb _).setCell (p := ⟨b, 2, none⟩) hb _

set_option maxHeartbeats 1000000 in
theorem of_any (a : Option Addr) (n cap b off : Nat) (l : List Mt) (bar : Int) (w : World) (h : Ms w a n b off l) (hch : Changes l) :
    Calls Try.prog 20 #[.slice a n cap, .int .i64 bar] w fun e w' => e = .returned (.agg #[.int .i64 (nthM l (ofK l bar n)).1, .int .i64 (nthM l (ofK l bar n)).2.1, .int .i64 (nthM l (ofK l bar n)).2.2]) ∧ Below w.heap.size w w' := by
  have hn64 : n ≤ 64 := by rw [← h.1]; exact hch.2.1
  have hn0 : 0 < n := by rw [← h.1]; exact hch.1
  obtain ⟨hl, ha, hc⟩ := h
  obtain ⟨rfl, hbw⟩ := ha hn0
  obtain ⟨d0, d1, d2⟩ := hc 0 hn0
  simp only [Nat.zero_mul, Nat.add_zero] at d0 d1 d2
  have HC := Lib.hid hc; clear hc ha hl hch
  go_enter Try.func20, Try.ntmps20
  go_wp2
  have n1 := blk_new (w.alloc (.cells #[.int .i64 0, .int .i64 0, .int .i64 0] 38)) (.cells #[.int .i64 (nthM l 0).1, .int .i64 (nthM l 0).2.1, .int .i64 (nthM l 0).2.2] 38)
  rw [World.size_alloc] at n1
  clear d0 d1 d2
  go_loopw [6] (fun i wr => ∃ k : Nat, k ≤ n ∧ i = .int .i64 k ∧ wr.heap[w.heap.size + 1]? = some (.cells #[.int .i64 (nthM l (ofK l bar k)).1, .int .i64 (nthM l (ofK l bar k)).2.1, .int .i64 (nthM l (ofK l bar k)).2.2] 38 (0, 0)) ∧ wr.heap[w.heap.size]? = some (.cells #[.int .i64 0, .int .i64 0, .int .i64 0] 38 (0, 0)) ∧ Below w.heap.size w wr) (fun i _ => n - (intOf i).toNat)
  case atStart => exact ⟨0, Nat.zero_le _, rfl, n1, blk_alloc (blk_new w _) _, ((Below.refl _ _).alloc (Nat.le_refl _) _).alloc (by simp) _⟩
  case round =>
    clear n1
    obtain ⟨k, hk, rfl, hm, hr, hb⟩ := hrel
    have m0 := blk_cell hm 0; have m1 := blk_cell hm 1; have m2 := blk_cell hm 2
    have f0 := blk_free hm 0; have f1 := blk_free hm 1; have f2 := blk_free hm 2
    have r0 := blk_cell hr 0; have r1 := blk_cell hr 1; have r2 := blk_cell hr 2
    have g0 := blk_free hr 0; have g1 := blk_free hr 1; have g2 := blk_free hr 2
    simp at m0 m1 m2 f0 f1 f2 r0 r1 r2 g0 g1 g2
    by_cases hlt : k < n
    · obtain ⟨c0, c1, c2⟩ := HC.out k hlt
      replace c0 := (hb.cell (p := ⟨b, off + k * 3, none⟩) hbw).trans c0
      replace c1 := (hb.cell (p := ⟨b, off + k * 3 + 1, none⟩) hbw).trans c1
      replace c2 := (hb.cell (p := ⟨b, off + k * 3 + 2, none⟩) hbw).trans c2
      by_cases hle : (nthM l k).1 ≤ bar
      · have e : ofK l bar (k + 1) = k := if_pos hle
        have HE := Lib.hid e; clear e
        generalize hx : nthM l k = x at *
        obtain ⟨X0, X1, X2⟩ := x
        have HX := Lib.hid hx; clear hx
        dsimp only at *
        have HMM := Lib.hid (show _ ∧ _ ∧ _ from ⟨hm, hr, hb⟩); clear hm hr hb
        go_wp2
        go_roundw
        case rel => exact ⟨k + 1, by omega, by go_num, by rw [HE.out, HX.out]; exact three_set HMM.out.1, three_far (by omega) HMM.out.2.1, three_below (by omega) HMM.out.2.2⟩
        case measure => simp [intOf]; omega
      · have e : ofK l bar (k + 1) = ofK l bar k := if_neg hle
        have HE := Lib.hid e; clear e
        have HMM := Lib.hid (show _ ∧ _ ∧ _ from ⟨hm, hr, hb⟩); clear hm hr hb
        go_wp2
        go_roundw
        case rel => exact ⟨k + 1, by omega, by go_num, by rw [HE.out]; exact HMM.out.1, HMM.out.2.1, HMM.out.2.2⟩
        case measure => simp [intOf]; omega
    · obtain rfl : k = n := by omega
      have HMM := Lib.hid (show _ ∧ _ ∧ _ from ⟨hm, hr, hb⟩); clear hm hr hb
      go_wp2
      have q0 := blk_cell (three_set (u := .int .i64 (nthM l (ofK l bar k)).1) (v := .int .i64 (nthM l (ofK l bar k)).2.1) (s := .int .i64 (nthM l (ofK l bar k)).2.2) HMM.out.2.1)
      refine bodyPost_ret (v := .agg #[.int .i64 (nthM l (ofK l bar k)).1, .int .i64 (nthM l (ofK l bar k)).2.1, .int .i64 (nthM l (ofK l bar k)).2.2]) ?_ rfl ⟨rfl, three_below (Nat.le_refl _) HMM.out.2.2⟩
      have q0' := q0 0; have q1' := q0 1; have q2' := q0 2
      simp at q0' q1' q2'
      simp [results, Try.results20, go_sem, q0', q1', q2']
end Go.Proofs.Ytkgimglkiniofaa
