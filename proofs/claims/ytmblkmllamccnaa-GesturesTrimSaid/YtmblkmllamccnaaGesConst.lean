/- Gestures of one value; literal lists of gestures (layer 12). -/
import Derived.Test.YtmblkmllamccnaaGesVal
namespace Go.Proofs.Ytmblkmllamccnaa
open Go.ChangeShapes Go.WideShapes Go.ChangeAt Go.RowKit

def cG (m f t u v : Int) (kb : Nat) : Gt := ⟨m, f, t, u, some ⟨kb, 0, none⟩, 1, 1, kb, 0, [(f, v, 1, 0, 0)]⟩
theorem cG_ok {m f t u v : Int} {kb : Nat} (h1 : 1 ≤ m ∧ m ≤ 3) (h2 : 0 ≤ f) (h3 : f < t) (h4 : t ≤ u) (h5 : u ≤ 1099511627776) (h6 : m = 2 ∨ u = t) (h7 : -2147483648 ≤ v ∧ v ≤ 2147483647) : okG (cG m f t u v kb) := by
  refine ⟨h1, h2, h3, h4, h5, h6, by show 0 < 1; omega, ?_⟩
  refine ⟨⟨by show 1 ≤ 1024; omega, fun i hi => ?_⟩, fun i hi => ?_⟩
  · have hi : i < 1 := hi
    obtain rfl : i = 0 := by omega
    refine ⟨⟨h2, by show f ≤ _; omega, h7.1, h7.2, by show (1 : Int) ≤ 1; omega, by show (1 : Int) ≤ 3; omega, fun h => ?_, fun _ => ⟨rfl, rfl⟩⟩, fun h => by omega⟩
    have h : (1 : Int) = 3 := h
    omega
  · have hi : i + 1 < 1 := hi
    omega
theorem cG_val (f v p : Int) : valC [(f, v, 1, 0, 0)] p = v := by
  unfold valC valP
  have hc : cnt [(f, v, 1, 0, 0)] p 1 ≤ 1 := cnt_le _ _ _
  show (if 1 = 0 then 0 else if cnt [(f, v, 1, 0, 0)] p 1 = 0 then v else if cnt [(f, v, 1, 0, 0)] p 1 = 1 then (nthK [(f, v, 1, 0, 0)] (cnt [(f, v, 1, 0, 0)] p 1 - 1)).2.1 else _) = v
  rw [if_neg (by omega)]
  by_cases h : cnt [(f, v, 1, 0, 0)] p 1 = 0
  · rw [if_pos h]
  · have h1 : cnt [(f, v, 1, 0, 0)] p 1 = 1 := by omega
    rw [if_neg h, if_pos h1, h1]
    rfl
theorem cG_made (x m f t u v p : Int) (kb : Nat) : made x (cG m f t u v kb) p = if f ≤ p ∧ p < u then chg m x v else x := by
  unfold made
  show (if f ≤ p ∧ p < u then chg m x (valC [(f, v, 1, 0, 0)] (min p (t - 1))) else x) = _
  rw [cG_val]

theorem const_any (m f t u v : Int) (w : World) :
    Calls Try.prog 20 #[.int .i64 m, .int .i64 f, .int .i64 t, .int .i64 u, .int .i64 v] w fun e w' => (∃ kb, e = .returned (encG (cG m f t u v kb)) ∧ GK w' (cG m f t u v kb)) ∧ Below w.heap.size w w' := by
  go_enter Try.func20, Try.ntmps20
  go_wp2
  have hk := Ks.lit (w.alloc (.cells #[.int .i64 m, .int .i64 f, .int .i64 t, .int .i64 u, .slice (some ⟨w.heap.size + 1, 0, none⟩) 1 1] 38)) #[.int .i64 f, .int .i64 v, .int .i64 1, .int .i64 0, .int .i64 0] [(f, v, 1, 0, 0)] 1 rfl (fun i hi => by
    obtain rfl : i = 0 := by omega
    exact ⟨rfl, rfl, rfl, rfl, rfl⟩)
  rw [World.size_alloc] at hk
  exact bodyPost_ret (v := encG (cG m f t u v (w.heap.size + 1))) (by simp [results, Try.results20, go_sem, encG, cG]) rfl ⟨⟨_, rfl, ⟨hk, by show 1 ≤ _; omega, fun h => (by cases h), by show 1 ≤ 1; omega⟩⟩, ((Below.refl _ _).alloc (Nat.le_refl _) _).alloc (by simp) _⟩

theorem Gs.lit1 (w : World) (g : Gt) (h : GK w g) : Gs (w.alloc (.cells #[.int .i64 g.m, .int .i64 g.f, .int .i64 g.t, .int .i64 g.u, .slice g.ka g.kn g.kc] 38)) (some ⟨w.heap.size, 0, none⟩) 1 w.heap.size 0 [g] := by
  have hn := blk_new w (.cells #[.int .i64 g.m, .int .i64 g.f, .int .i64 g.t, .int .i64 g.u, .slice g.ka g.kn g.kc] 38)
  refine ⟨rfl, fun _ => ⟨rfl, by simp⟩, fun i hi => ?_⟩
  obtain rfl : i = 0 := by omega
  exact ⟨⟨blk_cell hn 0, blk_cell hn 1, blk_cell hn 2, blk_cell hn 3, blk_cell hn 4⟩, h.grown ((Below.refl _ _).alloc (Nat.le_refl _) _)⟩
theorem Gs.lit2 (w : World) (g q : Gt) (h : GK w g) (h' : GK w q) : Gs (w.alloc (.cells #[.int .i64 g.m, .int .i64 g.f, .int .i64 g.t, .int .i64 g.u, .slice g.ka g.kn g.kc, .int .i64 q.m, .int .i64 q.f, .int .i64 q.t, .int .i64 q.u, .slice q.ka q.kn q.kc] 38)) (some ⟨w.heap.size, 0, none⟩) 2 w.heap.size 0 [g, q] := by
  have hn := blk_new w (.cells #[.int .i64 g.m, .int .i64 g.f, .int .i64 g.t, .int .i64 g.u, .slice g.ka g.kn g.kc, .int .i64 q.m, .int .i64 q.f, .int .i64 q.t, .int .i64 q.u, .slice q.ka q.kn q.kc] 38)
  have hb : Below w.heap.size w (w.alloc (.cells #[.int .i64 g.m, .int .i64 g.f, .int .i64 g.t, .int .i64 g.u, .slice g.ka g.kn g.kc, .int .i64 q.m, .int .i64 q.f, .int .i64 q.t, .int .i64 q.u, .slice q.ka q.kn q.kc] 38)) := (Below.refl _ _).alloc (Nat.le_refl _) _
  refine ⟨rfl, fun _ => ⟨rfl, by simp⟩, fun i hi => ?_⟩
  have hi2 : i = 0 ∨ i = 1 := by omega
  rcases hi2 with rfl | rfl
  · exact ⟨⟨blk_cell hn 0, blk_cell hn 1, blk_cell hn 2, blk_cell hn 3, blk_cell hn 4⟩, h.grown hb⟩
  · exact ⟨⟨blk_cell hn 5, blk_cell hn 6, blk_cell hn 7, blk_cell hn 8, blk_cell hn 9⟩, h'.grown hb⟩
end Go.Proofs.Ytmblkmllamccnaa
