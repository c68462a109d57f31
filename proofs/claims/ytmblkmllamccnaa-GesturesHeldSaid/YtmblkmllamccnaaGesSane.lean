/- The examples of the chapter (layer 12). -/
import Derived.Test.YtmblkmllamccnaaGesConst
import Derived.Deep.Cut
namespace Go.Proofs.Ytmblkmllamccnaa
open Go.ChangeShapes Go.WideShapes Go.ChangeAt Go.RowKit

theorem ok1 (k : Nat) : okG (cG 1 0 10 10 1 k) := cG_ok (by omega) (by omega) (by omega) (by omega) (by omega) (by omega) (by omega)
theorem ok2 (k : Nat) : okG (cG 3 0 10 10 4 k) := cG_ok (by omega) (by omega) (by omega) (by omega) (by omega) (by omega) (by omega)
theorem ok3 (k : Nat) : okG (cG 2 10 20 30 7 k) := cG_ok (by omega) (by omega) (by omega) (by omega) (by omega) (by omega) (by omega)
theorem ges1 {g : Gt} (h : okG g) : Ges [g] := ⟨by show 1 ≤ 64; omega, fun i hi => by
  have hi : i < 1 := hi
  obtain rfl : i = 0 := by omega
  exact h⟩
theorem ges2 {g q : Gt} (h : okG g) (h' : okG q) : Ges [g, q] := ⟨by show 2 ≤ 64; omega, fun i hi => by
  have hi : i < 2 := hi
  have hi2 : i = 0 ∨ i = 1 := by omega
  rcases hi2 with rfl | rfl
  · exact h
  · exact h'⟩
theorem ges0 : Ges [] := ⟨by show 0 ≤ 64; omega, fun i hi => by have hi : i < 0 := hi; omega⟩
theorem gesBad : ¬ Ges [g0] := fun h => by
  have h1 : (1 : Int) ≤ 0 := (h.2 0 (by show 0 < 1; omega)).1.1
  omega
theorem allG_one (v : Int) (g : Gt) (p : Int) : allG v [g] p = made v g p := rfl
theorem allG_two (v : Int) (g q : Gt) (p : Int) : allG v [g, q] p = made (made v g p) q p := rfl
theorem va (k1 k2 : Nat) : gvalV [cG 3 0 10 10 4 k2, cG 1 0 10 10 1 k1] 3 9 = 1 := by
  rw [gvalV_yes (ges2 (ok2 _) (ok1 _)), allG_two, cG_made, cG_made, if_pos (by omega), if_pos (by omega)]; rfl
theorem vb (k1 k2 : Nat) : gvalV [cG 1 0 10 10 1 k1, cG 3 0 10 10 4 k2] 3 9 = 5 := by
  rw [gvalV_yes (ges2 (ok1 _) (ok2 _)), allG_two, cG_made, cG_made, if_pos (by omega), if_pos (by omega)]; rfl
theorem vc (k3 : Nat) : gvalV [cG 2 10 20 30 7 k3] 3 29 = 7 := by
  rw [gvalV_yes (ges1 (ok3 _)), allG_one, cG_made, if_pos (by omega)]; rfl
theorem vd (k3 : Nat) : gvalV [cG 2 10 20 30 7 k3] 3 30 = 3 := by
  rw [gvalV_yes (ges1 (ok3 _)), allG_one, cG_made, if_neg (by omega)]
theorem ve (k2 : Nat) : gvals [cG 3 0 10 10 4 k2] [3, 3] 9 2 = [7, 3] := by
  show [allG 3 [cG 3 0 10 10 4 k2] (9 + ((0 : Nat) : Int)), allG 3 [cG 3 0 10 10 4 k2] (9 + ((1 : Nat) : Int))] = _
  rw [allG_one, allG_one, cG_made, cG_made, if_pos (by omega), if_neg (by omega)]; rfl

structure Bx (w W : World) (B1 B2 B3 k1 k2 k3 : Nat) : Prop where
  n1 : W.heap[B1]? = some (.cells #[.int .i64 1, .int .i64 0, .int .i64 10, .int .i64 10, .slice (some ⟨k1, 0, none⟩) 1 1] 38 (0, 0))
  n2 : W.heap[B2]? = some (.cells #[.int .i64 3, .int .i64 0, .int .i64 10, .int .i64 10, .slice (some ⟨k2, 0, none⟩) 1 1] 38 (0, 0))
  n3 : W.heap[B3]? = some (.cells #[.int .i64 2, .int .i64 10, .int .i64 20, .int .i64 30, .slice (some ⟨k3, 0, none⟩) 1 1] 38 (0, 0))
  a1 : GK W (cG 1 0 10 10 1 k1)
  a2 : GK W (cG 3 0 10 10 4 k2)
  a3 : GK W (cG 2 10 20 30 7 k3)
  hb : Below w.heap.size w W
theorem Bx.next {w W W' : World} {B1 B2 B3 k1 k2 k3 : Nat} (h : Bx w W B1 B2 B3 k1 k2 k3) (hb : Below W.heap.size W W') : Bx w W' B1 B2 B3 k1 k2 k3 :=
  ⟨blk_below h.n1 hb (Array.getElem?_eq_some_iff.1 h.n1).1, blk_below h.n2 hb (Array.getElem?_eq_some_iff.1 h.n2).1, blk_below h.n3 hb (Array.getElem?_eq_some_iff.1 h.n3).1, h.a1.grown hb, h.a2.grown hb, h.a3.grown hb, below_after h.hb hb h.hb.size⟩

set_option maxRecDepth 100000 in
set_option maxHeartbeats 8000000 in
theorem sane_any (w : World) : Calls Try.prog 10 #[] w fun e w' => e = .returned (.bool true) ∧ Below w.heap.size w w' := by
  go_enter Try.func10, Try.ntmps10
  go_wp2_with fail
  refine (const_any 1 0 10 10 1 _).mono ?_
  rintro e w1 ⟨⟨k1, rfl, hg1⟩, hb1⟩
  unfold encG cG
  dsimp only
  have q1 := blk_new w1 (.cells #[.int .i64 1, .int .i64 0, .int .i64 10, .int .i64 10, .slice (some ⟨k1, 0, none⟩) 1 1] 38)
  have e1 : Below w1.heap.size w1 (w1.alloc (.cells #[.int .i64 1, .int .i64 0, .int .i64 10, .int .i64 10, .slice (some ⟨k1, 0, none⟩) 1 1] 38)) := (Below.refl _ _).alloc (Nat.le_refl _) _
  have P1 := Lib.hid (show _ ∧ _ ∧ _ from ⟨q1, hg1.grown e1, below_after hb1 e1 hb1.size⟩)
  clear q1 e1 hg1 hb1
  go_wp2_with fail
  refine (const_any 3 0 10 10 4 _).mono ?_
  rintro e w2 ⟨⟨k2, rfl, hg2⟩, hb2⟩
  unfold encG cG
  dsimp only
  have q2 := blk_new w2 (.cells #[.int .i64 3, .int .i64 0, .int .i64 10, .int .i64 10, .slice (some ⟨k2, 0, none⟩) 1 1] 38)
  have e2 : Below w2.heap.size w2 (w2.alloc (.cells #[.int .i64 3, .int .i64 0, .int .i64 10, .int .i64 10, .slice (some ⟨k2, 0, none⟩) 1 1] 38)) := (Below.refl _ _).alloc (Nat.le_refl _) _
  have P2 := Lib.hid (show _ ∧ _ ∧ _ ∧ _ ∧ _ from ⟨blk_below (blk_below P1.out.1 hb2 (Array.getElem?_eq_some_iff.1 P1.out.1).1) e2 (Array.getElem?_eq_some_iff.1 (blk_below P1.out.1 hb2 (Array.getElem?_eq_some_iff.1 P1.out.1).1)).1, q2, (P1.out.2.1.grown hb2).grown e2, hg2.grown e2, below_after (below_after P1.out.2.2 hb2 P1.out.2.2.size) e2 (Nat.le_trans P1.out.2.2.size hb2.size)⟩)
  clear q2 e2 hg2 hb2 P1
  go_wp2_with fail
  refine (const_any 2 10 20 30 7 _).mono ?_
  rintro e w3 ⟨⟨k3, rfl, hg3⟩, hb3⟩
  unfold encG cG
  dsimp only
  have q3 := blk_new w3 (.cells #[.int .i64 2, .int .i64 10, .int .i64 20, .int .i64 30, .slice (some ⟨k3, 0, none⟩) 1 1] 38)
  have e3 : Below w3.heap.size w3 (w3.alloc (.cells #[.int .i64 2, .int .i64 10, .int .i64 20, .int .i64 30, .slice (some ⟨k3, 0, none⟩) 1 1] 38)) := (Below.refl _ _).alloc (Nat.le_refl _) _
  have ll := fun {q : Nat} {o : Obj} (h : (w2.alloc (.cells #[.int .i64 3, .int .i64 0, .int .i64 10, .int .i64 10, .slice (some ⟨k2, 0, none⟩) 1 1] 38)).heap[q]? = some o) => blk_below (blk_below h hb3 (Array.getElem?_eq_some_iff.1 h).1) e3 (Array.getElem?_eq_some_iff.1 (blk_below h hb3 (Array.getElem?_eq_some_iff.1 h).1)).1
  have HX := Lib.hid (show Bx w _ _ _ _ _ _ _ from ⟨ll P2.out.1, ll P2.out.2.1, q3, (P2.out.2.2.1.grown hb3).grown e3, (P2.out.2.2.2.1.grown hb3).grown e3, hg3.grown e3, below_after (below_after P2.out.2.2.2.2 hb3 P2.out.2.2.2.2.size) e3 (Nat.le_trans P2.out.2.2.2.2.size hb3.size)⟩)
  clear ll q3 e3 hg3 hb3 P2
  go_upto_region 4 with fail
  generalize w3.alloc (.cells #[.int .i64 2, .int .i64 10, .int .i64 20, .int .i64 30, .slice (some ⟨k3, 0, none⟩) 1 1] 38) = X at *
  generalize w1.heap.size = B1 at *
  generalize w2.heap.size = B2 at *
  generalize w3.heap.size = B3 at *
  have x0 := blk_cell HX.out.n1 0; have x1 := blk_cell HX.out.n1 1; have x2 := blk_cell HX.out.n1 2; have x3 := blk_cell HX.out.n1 3; have x4 := blk_cell HX.out.n1 4
  simp at x0 x1 x2 x3 x4
  have y0 := blk_cell HX.out.n2 0; have y1 := blk_cell HX.out.n2 1; have y2 := blk_cell HX.out.n2 2; have y3 := blk_cell HX.out.n2 3; have y4 := blk_cell HX.out.n2 4
  simp at y0 y1 y2 y3 y4
  go_wp2_with fail
  have hl := Lib.hid (show _ ∧ _ ∧ _ from ⟨Gs.lit2 X (cG 3 0 10 10 4 k2) (cG 1 0 10 10 1 k1) HX.out.a2 HX.out.a1, blk_new X (.cells #[.int .i64 3, .int .i64 0, .int .i64 10, .int .i64 10, .slice (some ⟨k2, 0, none⟩) 1 1, .int .i64 1, .int .i64 0, .int .i64 10, .int .i64 10, .slice (some ⟨k1, 0, none⟩) 1 1] 38), (show Below X.heap.size X (X.alloc (.cells #[.int .i64 3, .int .i64 0, .int .i64 10, .int .i64 10, .slice (some ⟨k2, 0, none⟩) 1 1, .int .i64 1, .int .i64 0, .int .i64 10, .int .i64 10, .slice (some ⟨k1, 0, none⟩) 1 1] 38)) from (Below.refl _ _).alloc (Nat.le_refl _) _)⟩)
  clear x0 x1 x2 x3 x4
  clear y0 y1 y2 y3 y4
  refine (gvalue_any 3 9 _ _ _ 2 2 _ _ hl.out.1 (fun _ => ⟨_, _, _, hl.out.2.1⟩) (by omega) (by decide) (by omega) (by omega)).mono ?_
  rintro e X0 ⟨rfl, hb⟩
  rw [va k1 k2, chkG_yes (ges2 (ok2 _) (ok1 _))]
  replace HX := Lib.hid ((HX.out.next hl.out.2.2).next hb)
  clear hl hb
  have x0 := blk_cell HX.out.n1 0; have x1 := blk_cell HX.out.n1 1; have x2 := blk_cell HX.out.n1 2; have x3 := blk_cell HX.out.n1 3; have x4 := blk_cell HX.out.n1 4
  simp at x0 x1 x2 x3 x4
  have y0 := blk_cell HX.out.n2 0; have y1 := blk_cell HX.out.n2 1; have y2 := blk_cell HX.out.n2 2; have y3 := blk_cell HX.out.n2 3; have y4 := blk_cell HX.out.n2 4
  simp at y0 y1 y2 y3 y4
  go_wp2_with fail
  have hl := Lib.hid (show _ ∧ _ ∧ _ from ⟨Gs.lit2 X0 (cG 1 0 10 10 1 k1) (cG 3 0 10 10 4 k2) HX.out.a1 HX.out.a2, blk_new X0 (.cells #[.int .i64 1, .int .i64 0, .int .i64 10, .int .i64 10, .slice (some ⟨k1, 0, none⟩) 1 1, .int .i64 3, .int .i64 0, .int .i64 10, .int .i64 10, .slice (some ⟨k2, 0, none⟩) 1 1] 38), (show Below X0.heap.size X0 (X0.alloc (.cells #[.int .i64 1, .int .i64 0, .int .i64 10, .int .i64 10, .slice (some ⟨k1, 0, none⟩) 1 1, .int .i64 3, .int .i64 0, .int .i64 10, .int .i64 10, .slice (some ⟨k2, 0, none⟩) 1 1] 38)) from (Below.refl _ _).alloc (Nat.le_refl _) _)⟩)
  clear x0 x1 x2 x3 x4
  clear y0 y1 y2 y3 y4
  refine (gvalue_any 3 9 _ _ _ 2 2 _ _ hl.out.1 (fun _ => ⟨_, _, _, hl.out.2.1⟩) (by omega) (by decide) (by omega) (by omega)).mono ?_
  rintro e X1 ⟨rfl, hb⟩
  rw [vb k1 k2, chkG_yes (ges2 (ok1 _) (ok2 _))]
  replace HX := Lib.hid ((HX.out.next hl.out.2.2).next hb)
  clear hl hb
  have z0 := blk_cell HX.out.n3 0; have z1 := blk_cell HX.out.n3 1; have z2 := blk_cell HX.out.n3 2; have z3 := blk_cell HX.out.n3 3; have z4 := blk_cell HX.out.n3 4
  simp at z0 z1 z2 z3 z4
  go_wp2_with fail
  have hl := Lib.hid (show _ ∧ _ ∧ _ from ⟨Gs.lit1 X1 (cG 2 10 20 30 7 k3) HX.out.a3, blk_new X1 (.cells #[.int .i64 2, .int .i64 10, .int .i64 20, .int .i64 30, .slice (some ⟨k3, 0, none⟩) 1 1] 38), (show Below X1.heap.size X1 (X1.alloc (.cells #[.int .i64 2, .int .i64 10, .int .i64 20, .int .i64 30, .slice (some ⟨k3, 0, none⟩) 1 1] 38)) from (Below.refl _ _).alloc (Nat.le_refl _) _)⟩)
  clear z0 z1 z2 z3 z4
  refine (gvalue_any 3 29 _ _ _ 1 1 _ _ hl.out.1 (fun _ => ⟨_, _, _, hl.out.2.1⟩) (by omega) (by decide) (by omega) (by omega)).mono ?_
  rintro e X2 ⟨rfl, hb⟩
  rw [vc k3, chkG_yes (ges1 (ok3 _))]
  replace HX := Lib.hid ((HX.out.next hl.out.2.2).next hb)
  clear hl hb
  have z0 := blk_cell HX.out.n3 0; have z1 := blk_cell HX.out.n3 1; have z2 := blk_cell HX.out.n3 2; have z3 := blk_cell HX.out.n3 3; have z4 := blk_cell HX.out.n3 4
  simp at z0 z1 z2 z3 z4
  go_wp2_with fail
  have hl := Lib.hid (show _ ∧ _ ∧ _ from ⟨Gs.lit1 X2 (cG 2 10 20 30 7 k3) HX.out.a3, blk_new X2 (.cells #[.int .i64 2, .int .i64 10, .int .i64 20, .int .i64 30, .slice (some ⟨k3, 0, none⟩) 1 1] 38), (show Below X2.heap.size X2 (X2.alloc (.cells #[.int .i64 2, .int .i64 10, .int .i64 20, .int .i64 30, .slice (some ⟨k3, 0, none⟩) 1 1] 38)) from (Below.refl _ _).alloc (Nat.le_refl _) _)⟩)
  clear z0 z1 z2 z3 z4
  refine (gvalue_any 3 30 _ _ _ 1 1 _ _ hl.out.1 (fun _ => ⟨_, _, _, hl.out.2.1⟩) (by omega) (by decide) (by omega) (by omega)).mono ?_
  rintro e X3 ⟨rfl, hb⟩
  rw [vd k3, chkG_yes (ges1 (ok3 _))]
  replace HX := Lib.hid ((HX.out.next hl.out.2.2).next hb)
  clear hl hb
  have y0 := blk_cell HX.out.n2 0; have y1 := blk_cell HX.out.n2 1; have y2 := blk_cell HX.out.n2 2; have y3 := blk_cell HX.out.n2 3; have y4 := blk_cell HX.out.n2 4
  simp at y0 y1 y2 y3 y4
  have hB2 := (Array.getElem?_eq_some_iff.1 HX.out.n2).1
  go_wp2_with fail
  have hl := Lib.hid (show _ ∧ _ ∧ _ ∧ _ from ⟨Gs.lit1 (X3.alloc (.cells #[.int .i64 3, .int .i64 3] 3)) (cG 3 0 10 10 4 k2) (HX.out.a2.grown ((Below.refl _ _).alloc (Nat.le_refl _) _)), blk_new (X3.alloc (.cells #[.int .i64 3, .int .i64 3] 3)) (.cells #[.int .i64 3, .int .i64 0, .int .i64 10, .int .i64 10, .slice (some ⟨k2, 0, none⟩) 1 1] 38), (show Below X3.heap.size X3 ((X3.alloc (.cells #[.int .i64 3, .int .i64 3] 3)).alloc (.cells #[.int .i64 3, .int .i64 0, .int .i64 10, .int .i64 10, .slice (some ⟨k2, 0, none⟩) 1 1] 38)) from ((Below.refl _ _).alloc (Nat.le_refl _) _).alloc (by simp) _), (show Row ((X3.alloc (.cells #[.int .i64 3, .int .i64 3] 3)).alloc (.cells #[.int .i64 3, .int .i64 0, .int .i64 10, .int .i64 10, .slice (some ⟨k2, 0, none⟩) 1 1] 38)) (some ⟨X3.heap.size, 0, none⟩) X3.heap.size 0 2 [3, 3] from ⟨rfl, fun _ => rfl, fun _ => by simp; omega, fun i hi => by
    have hh := blk_alloc (blk_new X3 (.cells #[.int .i64 3, .int .i64 3] 3)) (.cells #[.int .i64 3, .int .i64 0, .int .i64 10, .int .i64 10, .slice (some ⟨k2, 0, none⟩) 1 1] 38)
    have hi2 : i = 0 ∨ i = 1 := by omega
    rcases hi2 with rfl | rfl
    · exact blk_cell hh 0
    · exact blk_cell hh 1⟩)⟩)
  simp only [World.size_alloc] at hl
  clear y0 y1 y2 y3 y4
  refine (gvalues_any _ _ _ 2 2 [3, 3] 9 _ _ _ 1 1 _ _ hl.out.2.2.2 (by omega) (fun h => by cases h) (by decide) hl.out.1 (fun _ => ⟨_, _, _, hl.out.2.1⟩) (by omega) (by omega) (by omega)).mono ?_
  rintro e Y ⟨hv, hb⟩
  have hv2 : ∃ v B, e = .returned (.tuple #[v, .int .i64 0]) ∧ Ints Y B v [7, 3] := by
    rcases hv with ⟨h, _⟩ | ⟨_, h, _⟩ | ⟨_, _, v, h1, h2⟩
    · exact absurd (ges1 (ok2 _)) h
    · omega
    · exact ⟨v, _, h1, by rw [ve] at h2; exact h2⟩
  clear hv
  obtain ⟨v, B, rfl, hI⟩ := hv2
  obtain ⟨gb, c, rfl, _⟩ := hI.inBlock rfl (by decide : 0 < 2)
  have d0 := hI.cellAt rfl 0 (by decide : 0 < 2)
  have d1 := hI.cellAt rfl 1 (by decide : 1 < 2)
  have hgY : gb < Y.heap.size := World.block_lt_of_cell? Y _ d0
  replace HX := Lib.hid ((HX.out.next hl.out.2.2.1).next hb)
  clear hl hb hI
  simp at d0 d1
  go_wp2_with fail
  refine (gcheck_any none 0 0 0 0 [] _ ⟨rfl, fun h => by omega, fun i hi => by omega⟩ (by omega)).mono ?_
  rintro e Z ⟨rfl, hb⟩
  rw [chkG_yes ges0]
  replace HX := Lib.hid (HX.out.next hb)
  clear hb d0 d1 hgY
  go_wp2_with fail
  refine (gcheck_any _ _ _ 1 1 [g0] _ (Gs.lit1 Z g0 ⟨Ks.zero _ _, Nat.zero_le _, fun _ => rfl, Nat.le_refl _⟩) (by omega)).mono ?_
  rintro e Z2 ⟨rfl, hb⟩
  rw [chkG_no gesBad]
  replace HX := Lib.hid (HX.out.next (((Below.refl _ _).alloc (Nat.le_refl _) _).trans (hb.mono (by simp))))
  clear hb
  go_wp2
  go_ret
  exact ⟨rfl, HX.out.hb⟩
end Go.Proofs.Ytmblkmllamccnaa
