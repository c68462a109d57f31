/- The examples of layer 10. -/
import Derived.Test.YtkgimglkiniofaaMetreBars
namespace Go.Proofs.Ytkgimglkiniofaa
open Go.ChangeShapes Go.WideShapes Go.ChangeAt Go.RowKit

theorem bars_ok (a : Option Addr) (b off len cap : Nat) (l : List Mt) (fr to : Int) (w : World) (hch : Changes l) (hM : Ms w a len b off l) (hb : 0 < len → ∃ c tb fr, w.heap[b]? = some (.cells c tb fr)) (h1 : 0 ≤ fr) (h2 : fr ≤ to) (h3 : to ≤ 16777216) :
    Calls Try.prog 17 #[.slice a len cap, .int .i64 fr, .int .i64 to] w fun e w' => Below w.heap.size w w' ∧ ∃ v, e = .returned (.tuple #[v, .int .i64 (barsE (allF l fr to (List.range l.length)))]) ∧ Ints w' w.heap.size v (barsR (allF l fr to (List.range l.length))) := by
  have hl : 0 < len := by have := hch.1; rw [hM.1] at this; omega
  obtain ⟨c, tb, f, hb⟩ := hb hl
  obtain ⟨rfl, _⟩ := hM.2.1 hl
  exact callsIn_wide.1 (bars_in b off len cap l fr to w hch hM.1 c tb f hb hM h1 h2 h3)

theorem same_any (a a' : Option Addr) (b b' off off' n n' cap cap' : Nat) (l l' : List Int) (w : World) (h : Row w a b off n l) (h' : Row w a' b' off' n' l') (hn : n ≤ 16777216) (hn' : n' ≤ 16777216) (he : l = l') :
    Calls Try.prog 19 #[.slice a n cap, .slice a' n' cap'] w fun e w' => e = .returned (.bool true) ∧ Below w.heap.size w w' := by
  subst he
  obtain rfl : n = n' := by rw [← h.len, h'.len]
  have HR := Lib.hid h; have HR' := Lib.hid h'; clear h h'
  go_enter Try.func19, Try.ntmps19
  go_wp2
  go_loopw [5] (fun i wr => ∃ k : Nat, k ≤ n ∧ i = .int .i64 k ∧ Below w.heap.size w wr) (fun i _ => n - (intOf i).toNat)
  case atStart => exact ⟨0, Nat.zero_le _, rfl, Below.refl _ _⟩
  case round =>
    obtain ⟨k, hk, rfl, hB⟩ := hrel
    by_cases hlt : k < n
    · obtain rfl := HR.out.adr (by omega)
      obtain rfl := HR'.out.adr (by omega)
      have hc1 := (HR.out.below hB (Nat.le_refl _)).cel k hlt
      have hc2 := (HR'.out.below hB (Nat.le_refl _)).cel k hlt
      generalize hx : l.getD k 0 = x at *
      have HX := Lib.hid hx; clear hx
      go_wp2
      go_quiet (fail)
      go_wp2
      go_roundw
      case rel => exact ⟨k + 1, by omega, by go_num, below_drewN hB _⟩
      case measure => simp [intOf]; omega
    · obtain rfl : k = n := by omega
      go_wp2
      go_ret
      exact ⟨rfl, hB⟩

theorem Row.lit (w : World) (cs : Array Value) (l : List Int) (n : Nat) (hn : l.length = n) (hcs : cs.toList = l.map (Value.int .i64)) : Row (w.alloc (.cells cs 3)) (some ⟨w.heap.size, 0, none⟩) w.heap.size 0 n l :=
  ⟨hn, fun _ => rfl, fun _ => by simp, fun i hi => by
    have h1 := cell_of_row _ w.heap.size i cs 3 (0, 0) (heap_alloc_new w (.cells cs 3))
    rw [Nat.zero_add, h1, ← Array.getElem?_toList, hcs]
    simp [List.getD_eq_getElem?_getD, hn, hi]⟩
theorem Ms.lit (w : World) (cs : Array Value) (l : List Mt) (n : Nat) (hn : l.length = n) (hcs : ∀ i, i < n → cs[i * 3]? = some (.int .i64 (nthM l i).1) ∧ cs[i * 3 + 1]? = some (.int .i64 (nthM l i).2.1) ∧ cs[i * 3 + 2]? = some (.int .i64 (nthM l i).2.2)) :
    Ms (w.alloc (.cells cs 38)) (some ⟨w.heap.size, 0, none⟩) n w.heap.size 0 l :=
  ⟨hn, fun _ => ⟨rfl, by simp⟩, fun i hi => by
    obtain ⟨h0, h1, h2⟩ := hcs i hi
    have hc := fun j => cell_of_row _ w.heap.size j cs 38 (0, 0) (heap_alloc_new w (.cells cs 38))
    simp only [Nat.zero_add]
    exact ⟨(hc _).trans h0, (hc _).trans h1, (hc _).trans h2⟩⟩

def l4 : List Mt := [(0, 4, 480)]
def l1 : List Mt := [(0, 1, 1)]
def l2 : List Mt := [(0, 4, 480), (2, 3, 480)]
theorem ch4 : Changes l4 := ⟨by decide, by decide, by decide, fun i hi => by
  obtain rfl : i = 0 := by have : l4.length = 1 := rfl; omega
  exact ⟨⟨by decide, by decide, by decide, by decide, by decide, by decide⟩, fun h => absurd h (by omega)⟩⟩
theorem ch1 : Changes l1 := ⟨by decide, by decide, by decide, fun i hi => by
  obtain rfl : i = 0 := by have : l1.length = 1 := rfl; omega
  exact ⟨⟨by decide, by decide, by decide, by decide, by decide, by decide⟩, fun h => absurd h (by omega)⟩⟩
theorem ch2 : Changes l2 := ⟨by decide, by decide, by decide, fun i hi => by
  rcases (show i = 0 ∨ i = 1 by have : l2.length = 2 := rfl; omega) with rfl | rfl
  · exact ⟨⟨by decide, by decide, by decide, by decide, by decide, by decide⟩, fun h => absurd h (by omega)⟩
  · exact ⟨⟨by decide, by decide, by decide, by decide, by decide, by decide⟩, fun _ => by decide⟩⟩
theorem t4 {t r : Int} (h : TickRes l4 2 1 3 t r) : t = 4323 ∧ r = 0 := by
  have e : tickAt l4 0 2 1 3 = 4323 := by decide +kernel
  rcases tick_of (k := 0) ch4 ⟨by decide, by decide +kernel, by decide +kernel, by decide +kernel, by decide +kernel, by decide +kernel, by decide +kernel⟩ h with ⟨_, h2, h3⟩ | ⟨h1, _, _⟩
  · exact ⟨h3.trans e, h2⟩
  · omega
theorem t1 {t r : Int} (h : TickRes l1 7 0 0 t r) : t = 7 ∧ r = 0 := by
  have e : tickAt l1 0 7 0 0 = 7 := by decide +kernel
  rcases tick_of (k := 0) ch1 ⟨by decide, by decide +kernel, by decide +kernel, by decide +kernel, by decide +kernel, by decide +kernel, by decide +kernel⟩ h with ⟨_, h2, h3⟩ | ⟨h1, _, _⟩
  · exact ⟨h3.trans e, h2⟩
  · omega
theorem p4 {B b o r : Int} (h : PlaceRes l4 1920 B b o r) : B = 1 ∧ b = 0 ∧ o = 0 ∧ r = 0 := by
  obtain ⟨hr, _, _, _, h1, h2, h3⟩ := place_of (k := 0) ch4 (by omega) (by omega) (by decide) (by decide +kernel) (by decide +kernel) h
  exact ⟨h1.trans (by decide +kernel), h2.trans (by decide +kernel), h3.trans (by decide +kernel), hr⟩
theorem p1 {B b o r : Int} (h : PlaceRes l1 1048576 B b o r) : B = 1048576 ∧ b = 0 ∧ o = 0 ∧ r = 0 := by
  obtain ⟨hr, _, _, _, h1, h2, h3⟩ := place_of (k := 0) ch1 (by omega) (by omega) (by decide) (by decide +kernel) (by decide +kernel) h
  exact ⟨h1.trans (by decide +kernel), h2.trans (by decide +kernel), h3.trans (by decide +kernel), hr⟩
theorem p1n {B b o r : Int} (h : PlaceRes l1 1048577 B b o r) : B = 0 ∧ b = 0 ∧ o = 0 ∧ r = 70 := by
  rcases h with ⟨h, _⟩ | ⟨_, h, _⟩ | ⟨hc, _, hp⟩
  · exact absurd ch1 h
  · omega
  · rcases hp with ⟨k, hk, hj, hs, _⟩ | ⟨_, h1, h2, h3, h4⟩
    · have hS := spot_of_at hc hk (by omega) hj hs
      obtain rfl : k = 0 := by have : l1.length = 1 := rfl; omega
      have := hS.2.2.1
      have e : tickOf l1 (0 + 1) = 1048577 := by decide +kernel
      omega
    · exact ⟨h1, h2, h3, h4⟩
theorem partL_cut {l : List Mt} {fr to : Int} {k j m : Nat} (hn : 1 ≤ lenOf l k) (hj : to ≤ tickOf l k + (j : Int) * lenOf l k) (hm : j ≤ m) : partL l fr to k m = partL l fr to k j :=
  partL_from (fun i h1 _ => by
    have h6 := Int.mul_le_mul_of_nonneg_right (show (j : Int) ≤ (i : Int) by omega) (show 0 ≤ lenOf l k by omega)
    unfold inPart
    rw [decide_eq_false (by omega)]) hm
theorem partL_full {l : List Mt} {fr to : Int} {k j : Nat} (h : ∀ i : Nat, i < j → inPart fr to (tickOf l k + (i : Int) * lenOf l k) = true) : (partL l fr to k j).length = j := by
  induction j with
  | zero => rfl
  | succ j ih => rw [partL_succ, h j (by omega), if_pos rfl, List.length_append, ih fun i hi => h i (by omega)]; rfl
theorem b1 : allF l2 1 6000 (List.range l2.length) = [1920, 3840, 5280] := by
  show partL l2 1 6000 0 (cntOf l2 0) ++ (partL l2 1 6000 1 (cntOf l2 1) ++ []) = _
  rw [partL_cut (k := 1) (j := 2) (by decide +kernel) (by decide +kernel) (by decide +kernel)]
  decide +kernel
theorem allF_one {l : List Mt} (fr to : Int) (h : l.length = 1) : allF l fr to (List.range l.length) = partL l fr to 0 (cntOf l 0) := by
  unfold allF
  rw [h, show List.range 1 = [0] from rfl]
  simp
theorem b2 : 4096 < (allF l1 0 4097 (List.range l1.length)).length := by
  rw [allF_one 0 4097 rfl, partL_cut (k := 0) (j := 4097) (by decide +kernel) (by decide +kernel) (by decide +kernel), partL_full]
  · omega
  · intro i hi
    have e : tickOf l1 0 + (i : Int) * lenOf l1 0 = (i : Int) := by
      have e1 : tickOf l1 0 = 0 := rfl
      have e2 : lenOf l1 0 = 1 := by decide +kernel
      rw [e1, e2]; omega
    rw [e]
    unfold inPart
    rw [decide_eq_true ⟨by omega, by omega⟩]
theorem b3 : allF l1 5 5 (List.range l1.length) = [] := by
  rw [allF_one 5 5 rfl, partL_from (j := 0) (fun i _ _ => by unfold inPart; rw [decide_eq_false (by omega)]) (by omega)]
  rfl

set_option maxRecDepth 100000 in
set_option maxHeartbeats 4000000 in
theorem sane_any (w : World) :
    Calls Try.prog 10 #[] w fun e w' => e = .returned (.bool true) ∧ Below w.heap.size w w' := by
  go_enter Try.func10, Try.ntmps10
  have hB := Below.refl w.heap.size w
  have M4 := Ms.lit w #[.int .i64 0, .int .i64 4, .int .i64 480] l4 1 rfl (fun i hi => by rcases (show i = 0 by omega) with rfl; exact ⟨rfl, rfl, rfl⟩)
  have n4 := blk_new w (.cells #[.int .i64 0, .int .i64 4, .int .i64 480] 38)
  replace hB := hB.alloc hB.size (.cells #[.int .i64 0, .int .i64 4, .int .i64 480] 38)
  have M1 := Ms.lit (w.alloc (.cells #[.int .i64 0, .int .i64 4, .int .i64 480] 38)) #[.int .i64 0, .int .i64 1, .int .i64 1] l1 1 rfl (fun i hi => by rcases (show i = 0 by omega) with rfl; exact ⟨rfl, rfl, rfl⟩)
  have n1 := blk_new (w.alloc (.cells #[.int .i64 0, .int .i64 4, .int .i64 480] 38)) (.cells #[.int .i64 0, .int .i64 1, .int .i64 1] 38)
  rw [World.size_alloc] at M1 n1
  replace M4 := M4.grown ((Below.refl _ _).alloc (Nat.le_refl _) (.cells #[.int .i64 0, .int .i64 1, .int .i64 1] 38))
  replace n4 := blk_alloc n4 (.cells #[.int .i64 0, .int .i64 1, .int .i64 1] 38)
  replace hB := hB.alloc (by rw [World.size_alloc]; omega) (.cells #[.int .i64 0, .int .i64 1, .int .i64 1] 38)
  go_wp2_with fail
  refine (tick_any (some ⟨w.heap.size, 0, none⟩) w.heap.size 0 1 1 l4 2 1 3 _ M4 (by omega) (fun _ => ⟨_, _, _, n4⟩)).mono ?_; rintro e w1 ⟨hb, t, r, hT, rfl⟩; obtain ⟨rfl, rfl⟩ := t4 hT
  clear hT
  replace M4 := M4.grown hb
  replace n4 := blk_below n4 hb (Array.getElem?_eq_some_iff.1 n4).1
  replace M1 := M1.grown hb
  replace n1 := blk_below n1 hb (Array.getElem?_eq_some_iff.1 n1).1
  replace hB := below_after hB hb hB.size
  clear hb
  go_wp2_with fail
  refine (place_any (some ⟨w.heap.size, 0, none⟩) w.heap.size 0 1 1 l4 1920 _ M4 (by omega) (fun _ => ⟨_, _, _, n4⟩)).mono ?_; rintro e w2 ⟨hb, B, b, o, r, hT, rfl⟩; obtain ⟨rfl, rfl, rfl, rfl⟩ := p4 hT
  clear hT
  replace M4 := M4.grown hb
  replace n4 := blk_below n4 hb (Array.getElem?_eq_some_iff.1 n4).1
  replace M1 := M1.grown hb
  replace n1 := blk_below n1 hb (Array.getElem?_eq_some_iff.1 n1).1
  replace hB := below_after hB hb hB.size
  clear hb
  have M2 := Ms.lit w2 #[.int .i64 0, .int .i64 4, .int .i64 480, .int .i64 2, .int .i64 3, .int .i64 480] l2 2 rfl (fun i hi => by rcases (show i = 0 ∨ i = 1 by omega) with rfl | rfl <;> exact ⟨rfl, rfl, rfl⟩)
  have n2 := blk_new w2 (.cells #[.int .i64 0, .int .i64 4, .int .i64 480, .int .i64 2, .int .i64 3, .int .i64 480] 38)
  replace M4 := M4.grown ((Below.refl _ _).alloc (Nat.le_refl _) (.cells #[.int .i64 0, .int .i64 4, .int .i64 480, .int .i64 2, .int .i64 3, .int .i64 480] 38))
  replace n4 := blk_alloc n4 (.cells #[.int .i64 0, .int .i64 4, .int .i64 480, .int .i64 2, .int .i64 3, .int .i64 480] 38)
  replace M1 := M1.grown ((Below.refl _ _).alloc (Nat.le_refl _) (.cells #[.int .i64 0, .int .i64 4, .int .i64 480, .int .i64 2, .int .i64 3, .int .i64 480] 38))
  replace n1 := blk_alloc n1 (.cells #[.int .i64 0, .int .i64 4, .int .i64 480, .int .i64 2, .int .i64 3, .int .i64 480] 38)
  replace hB := hB.alloc hB.size (.cells #[.int .i64 0, .int .i64 4, .int .i64 480, .int .i64 2, .int .i64 3, .int .i64 480] 38)
  go_wp2_with fail
  refine (bars_ok (some ⟨w2.heap.size, 0, none⟩) w2.heap.size 0 2 2 l2 1 6000 _ ch2 M2 (fun _ => ⟨_, _, _, n2⟩) (by omega) (by omega) (by omega)).mono ?_; rintro e w3 ⟨hb, v, rfl, hO⟩
  rw [show barsE (allF l2 1 6000 (List.range l2.length)) = 0 by rw [b1]; rfl]
  rw [show barsR (allF l2 1 6000 (List.range l2.length)) = [1920, 3840, 5280] by rw [b1]; rfl] at hO
  clear M2 n2
  replace M4 := M4.grown hb
  replace n4 := blk_below n4 hb (Array.getElem?_eq_some_iff.1 n4).1
  replace M1 := M1.grown hb
  replace n1 := blk_below n1 hb (Array.getElem?_eq_some_iff.1 n1).1
  replace hB := below_after hB hb hB.size
  clear hb
  obtain ⟨a3, q3, c3, rfl, R, -, -⟩ := hO.row
  clear hO
  go_wp2_with fail
  refine (tick_any (some ⟨w.heap.size + 1, 0, none⟩) (w.heap.size + 1) 0 1 1 l1 7 0 0 _ M1 (by omega) (fun _ => ⟨_, _, _, n1⟩)).mono ?_; rintro e w4 ⟨hb, t, r, hT, rfl⟩; obtain ⟨rfl, rfl⟩ := t1 hT
  clear hT
  replace M4 := M4.grown hb
  replace n4 := blk_below n4 hb (Array.getElem?_eq_some_iff.1 n4).1
  replace M1 := M1.grown hb
  replace n1 := blk_below n1 hb (Array.getElem?_eq_some_iff.1 n1).1
  replace R := R.below hb (Nat.le_refl _)
  replace hB := below_after hB hb hB.size
  clear hb
  go_wp2_with fail
  refine (place_any (some ⟨w.heap.size + 1, 0, none⟩) (w.heap.size + 1) 0 1 1 l1 1048576 _ M1 (by omega) (fun _ => ⟨_, _, _, n1⟩)).mono ?_; rintro e w5 ⟨hb, B, b, o, r, hT, rfl⟩; obtain ⟨rfl, rfl, rfl, rfl⟩ := p1 hT
  clear hT
  replace M4 := M4.grown hb
  replace n4 := blk_below n4 hb (Array.getElem?_eq_some_iff.1 n4).1
  replace M1 := M1.grown hb
  replace n1 := blk_below n1 hb (Array.getElem?_eq_some_iff.1 n1).1
  replace R := R.below hb (Nat.le_refl _)
  replace hB := below_after hB hb hB.size
  clear hb
  go_wp2_with fail
  refine (place_any (some ⟨w.heap.size + 1, 0, none⟩) (w.heap.size + 1) 0 1 1 l1 1048577 _ M1 (by omega) (fun _ => ⟨_, _, _, n1⟩)).mono ?_; rintro e w6 ⟨hb, B, b, o, r, hT, rfl⟩; obtain ⟨rfl, rfl, rfl, rfl⟩ := p1n hT
  clear hT
  replace M4 := M4.grown hb
  replace n4 := blk_below n4 hb (Array.getElem?_eq_some_iff.1 n4).1
  replace M1 := M1.grown hb
  replace n1 := blk_below n1 hb (Array.getElem?_eq_some_iff.1 n1).1
  replace R := R.below hb (Nat.le_refl _)
  replace hB := below_after hB hb hB.size
  clear hb
  go_wp2_with fail
  refine (bars_ok (some ⟨w.heap.size + 1, 0, none⟩) (w.heap.size + 1) 0 1 1 l1 0 4097 _ ch1 M1 (fun _ => ⟨_, _, _, n1⟩) (by omega) (by omega) (by omega)).mono ?_; rintro e w7 ⟨hb, v, rfl, hO⟩
  rw [show barsE (allF l1 0 4097 (List.range l1.length)) = 2 from if_neg (by have := b2; omega)]
  rw [show barsR (allF l1 0 4097 (List.range l1.length)) = [] from if_neg (by have := b2; omega)] at hO
  replace M4 := M4.grown hb
  replace n4 := blk_below n4 hb (Array.getElem?_eq_some_iff.1 n4).1
  replace M1 := M1.grown hb
  replace n1 := blk_below n1 hb (Array.getElem?_eq_some_iff.1 n1).1
  replace R := R.below hb (Nat.le_refl _)
  replace hB := below_after hB hb hB.size
  clear hb
  obtain ⟨a7, c7, rfl⟩ := hO.isSlice
  clear hO
  go_wp2_with fail
  refine (bars_ok (some ⟨w.heap.size + 1, 0, none⟩) (w.heap.size + 1) 0 1 1 l1 5 5 _ ch1 M1 (fun _ => ⟨_, _, _, n1⟩) (by omega) (by omega) (by omega)).mono ?_; rintro e w8 ⟨hb, v, rfl, hO⟩
  rw [show barsE (allF l1 5 5 (List.range l1.length)) = 0 by rw [b3]; rfl]
  rw [show barsR (allF l1 5 5 (List.range l1.length)) = [] by rw [b3]; rfl] at hO
  replace M4 := M4.grown hb
  replace n4 := blk_below n4 hb (Array.getElem?_eq_some_iff.1 n4).1
  replace M1 := M1.grown hb
  replace n1 := blk_below n1 hb (Array.getElem?_eq_some_iff.1 n1).1
  replace R := R.below hb (Nat.le_refl _)
  replace hB := below_after hB hb hB.size
  clear hb
  obtain ⟨a8, c8, rfl⟩ := hO.isSlice
  clear hO
  go_wp2_with fail
  refine (mcheck_any none 0 0 0 0 [] _ ⟨rfl, fun h => by omega, fun i hi => by omega⟩ (by omega)).mono ?_; rintro e w9 ⟨rfl, hb⟩
  rw [show chk [] = 100 from chk_no fun h => by have := h.1; simp at this]
  replace M4 := M4.grown hb
  replace n4 := blk_below n4 hb (Array.getElem?_eq_some_iff.1 n4).1
  replace M1 := M1.grown hb
  replace n1 := blk_below n1 hb (Array.getElem?_eq_some_iff.1 n1).1
  replace R := R.below hb (Nat.le_refl _)
  replace hB := below_after hB hb hB.size
  clear hb
  go_wp2_with fail
  refine (mcheck_any _ 1 1 _ 0 l4 _ M4 (by omega)).mono ?_; rintro e w10 ⟨rfl, hb⟩
  rw [chk_yes ch4]
  replace M4 := M4.grown hb
  replace n4 := blk_below n4 hb (Array.getElem?_eq_some_iff.1 n4).1
  replace M1 := M1.grown hb
  replace n1 := blk_below n1 hb (Array.getElem?_eq_some_iff.1 n1).1
  replace R := R.below hb (Nat.le_refl _)
  replace hB := below_after hB hb hB.size
  clear hb
  go_wp2_with fail
  refine (same_any _ _ _ _ _ _ _ 3 _ _ _ [1920, 3840, 5280] _ (R.below ((Below.refl _ _).alloc (Nat.le_refl _) _) (Nat.le_refl _)) (Row.lit w10 _ _ _ (by rfl) (by rfl)) (by simp) (by omega) rfl).mono ?_; rintro e w11 ⟨rfl, hb⟩
  replace hB := below_after (hB.alloc hB.size (.cells #[.int .i64 1920, .int .i64 3840, .int .i64 5280] 3)) hb (by have := hB.size; simp <;> omega)
  go_wp2_with fail
  go_ret
  exact ⟨rfl, hB⟩
end Go.Proofs.Ytkgimglkiniofaa
