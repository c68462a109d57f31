/- Same, and the examples of layer 9. -/
import Derived.Test.YtcgndcapdodhlaaTemIns
import Derived.Test.YtcgndcapdodhlaaTemTick
namespace Go.Proofs.Ytcgndcapdodhlaa
open Go.ChangeShapes Go.WideShapes Go.ChangeAt Go.RowKit

set_option maxHeartbeats 1000000 in
theorem same_any (a a' : Option Addr) (b b' off off' n n' cap cap' : Nat) (l l' : List Tp) (w : World) (h : Ts w a n b off l) (h' : Ts w a' n' b' off' l') (hn : n ≤ 16777216) (hn' : n' ≤ 16777216) (he : l = l') :
    Calls Try.prog 19 #[.slice a n cap, .slice a' n' cap'] w fun e w' => e = .returned (.bool true) ∧ Below w.heap.size w w' := by
  subst he
  obtain rfl : n = n' := by rw [← h.1, h'.1]
  have HR := Lib.hid h; have HR' := Lib.hid h'; clear h h'
  go_enter Try.func19, Try.ntmps19
  go_wp2
  go_loopw [5] (fun i wr => ∃ k : Nat, k ≤ n ∧ i = .int .i64 k ∧ Below w.heap.size w wr) (fun i _ => n - (intOf i).toNat)
  case atStart => exact ⟨0, Nat.zero_le _, rfl, Below.refl _ _⟩
  case round =>
    obtain ⟨k, hk, rfl, hB⟩ := hrel
    by_cases hlt : k < n
    · obtain ⟨rfl, _⟩ := HR.out.2.1 (by omega)
      obtain ⟨rfl, _⟩ := HR'.out.2.1 (by omega)
      obtain ⟨c0, c1, c2, c3⟩ := (HR.out.grown hB).2.2 k hlt
      obtain ⟨d0, d1, d2, d3⟩ := (HR'.out.grown hB).2.2 k hlt
      generalize hx : nthT l k = x at *
      obtain ⟨x0, x1, x2, x3⟩ := x
      have HX := Lib.hid hx; clear hx
      dsimp only at c0 c1 c2 c3 d0 d1 d2 d3
      go_wp2
      go_quiet (fail)
      go_wp2
      go_roundw
      case rel => exact ⟨k + 1, by omega, by go_num, below_drewN hB _⟩
      case measure => simp [intOf]; omega
    · obtain rfl : k = n := by omega
      go_wp2
      go_ret
      exact ⟨rfl, hB⟩

theorem Ts.lit (w : World) (cs : Array Value) (l : List Tp) (n : Nat) (hn : l.length = n) (hcs : ∀ i, i < n → cs[i * 4]? = some (.int .i64 (nthT l i).1) ∧ cs[i * 4 + 1]? = some (.int .i64 (nthT l i).2.1) ∧ cs[i * 4 + 2]? = some (.int .i64 (nthT l i).2.2.1) ∧ cs[i * 4 + 3]? = some (.bool (nthT l i).2.2.2)) :
    Ts (w.alloc (.cells cs 30)) (some ⟨w.heap.size, 0, none⟩) n w.heap.size 0 l :=
  ⟨hn, fun _ => ⟨rfl, by simp⟩, fun i hi => by
    obtain ⟨h0, h1, h2, h3⟩ := hcs i hi
    have hc := fun j => cell_of_row _ w.heap.size j cs 30 (0, 0) (heap_alloc_new w (.cells cs 30))
    simp only [Nat.zero_add]
    exact ⟨(hc _).trans h0, (hc _).trans h1, (hc _).trans h2, (hc _).trans h3⟩⟩

def lS : List Tp := [(0, 1, 3, false)]
def lF : List Tp := [(0, 5, 2, false)]
def lB : List Tp := [(0, 1048576, 1, false)]
def lR : List Tp := [(0, 48, 1, true), (100, 24, 1, false)]
def lN : List Tp := [(0, 1, 1, true)]
theorem map_one {p : Tp} (h0 : p.1 = 0) (h1 : p.2.2.2 = false) (h2 : okT p) : Map [p] := ⟨by simp, by simp, h0, h1, fun i hi => by
  obtain rfl : i = 0 := by simp at hi; omega
  exact ⟨h2, fun h => absurd h (by omega)⟩⟩
theorem mS : Map lS := map_one rfl rfl ⟨by decide, by decide, by decide, by decide, by decide, by decide⟩
theorem mF : Map lF := map_one rfl rfl ⟨by decide, by decide, by decide, by decide, by decide, by decide⟩
theorem mB : Map lB := map_one rfl rfl ⟨by decide, by decide, by decide, by decide, by decide, by decide⟩
theorem mR : Map lR := ⟨by decide, by decide, rfl, rfl, fun i hi => by
  rcases (show i = 0 ∨ i = 1 by have : lR.length = 2 := rfl; omega) with rfl | rfl
  · exact ⟨⟨by decide, by decide, by decide, by decide, by decide, by decide⟩, fun h => absurd h (by omega)⟩
  · exact ⟨⟨by decide, by decide, by decide, by decide, by decide, by decide⟩, fun _ => ⟨by decide, fun _ => by decide⟩⟩⟩
theorem mN : ¬ Map lN := fun h => by have := h.2.2.2.1; cases this
theorem m0 : ¬ Map [] := fun h => by have := h.1; simp at this
theorem s_val {l : List Tp} {t v : Int} (h : Map l) (h0 : 0 ≤ t ∧ t ≤ 16777216) (e : smp l t = v) (hv : v ≤ 1099511627776) : sE l t = 0 ∧ sV l t = v := by
  rw [← e] at hv ⊢; exact s_ok h h0 hv
theorem v3 : sE lS 3 = 0 ∧ sV lS 3 = 1 := s_val mS (by omega) (by decide +kernel) (by omega)
theorem v2 : sE lS 2 = 0 ∧ sV lS 2 = 0 := s_val mS (by omega) (by decide +kernel) (by omega)
theorem v4 : sE lS 4 = 0 ∧ sV lS 4 = 1 := s_val mS (by omega) (by decide +kernel) (by omega)
theorem v7 : sE lF 3 = 0 ∧ sV lF 3 = 7 := s_val mF (by omega) (by decide +kernel) (by omega)
theorem vB : sE lB 16777216 = 70 ∧ sV lB 16777216 = 0 := s_big mB (by omega) (by decide +kernel)
theorem v0 : sE [] 0 = 90 ∧ sV [] 0 = 0 := s_no m0
theorem vR : sE lR 100 = 0 ∧ sV lR 100 = 3600 := s_val mR (by omega) (by decide +kernel) (by omega)
theorem vH : sE lR 50 = 0 ∧ sV lR 50 = 2100 := s_val mR (by omega) (by decide +kernel) (by omega)
theorem vA : sE lS (-1) = 1 ∧ sV lS (-1) = 0 := s_arg mS (by omega)
theorem tS {t e : Int} (h : TickRes lS 0 t e) : t = 2 ∧ e = 0 := by
  rcases h with ⟨h, _⟩ | ⟨_, h, _⟩ | ⟨_, _, h, rfl⟩
  · exact absurd mS h
  · omega
  · exact ⟨tickIs_one mS h ⟨by omega, by omega, by decide +kernel, fun _ => by decide +kernel⟩, rfl⟩
theorem tA {t e : Int} (h : TickRes lS 1099511627777 t e) : t = 0 ∧ e = 1 := by
  rcases h with ⟨h, _⟩ | ⟨_, _, h⟩ | ⟨_, h, _⟩
  · exact absurd mS h
  · exact h
  · omega
theorem iN {A R : Nat} (h : InsAt [] 0 A R) : insX [] (0, 1, 3, false) A R = lS := by
  obtain ⟨rfl, rfl⟩ := insAt_one h (A' := 0) (R' := 0) (.inr ⟨rfl, by simp, fun j hj => by simp at hj, fun j hj => by omega, fun h => by simp at h⟩)
  rfl
theorem iS {A R : Nat} (h : InsAt lS 1 A R) : ¬ Map (insX lS (1, 1, 0, false) A R) := by
  obtain ⟨rfl, rfl⟩ := insAt_one h (A' := 1) (R' := 1) (.inr ⟨rfl, by decide, fun j hj => by
    obtain rfl : j = 0 := by have : lS.length = 1 := rfl; omega
    decide, fun j hj => by
    obtain rfl : j = 0 := by omega
    decide, fun h => by have : lS.length = 1 := rfl; omega⟩)
  intro h
  have := (h.2.2.2.2 1 (by decide)).1.2.2.2.2.1
  exact absurd this (by decide)
theorem noBlk (W : World) (b : Nat) : 0 < 0 → ∃ c tb fr, W.heap[b]? = some (.cells c tb fr) := fun h => absurd h (by omega)

set_option maxRecDepth 100000 in
set_option maxHeartbeats 8000000 in
theorem sane_any (w : World) :
    Calls Try.prog 10 #[] w fun e w' => e = .returned (.bool true) ∧ Below w.heap.size w w' := by
  go_enter Try.func10, Try.ntmps10
  have hB := Below.refl w.heap.size w
  have M := Ts.lit w #[.int .i64 0, .int .i64 1, .int .i64 3, .bool false] lS 1 rfl (fun i hi => by rcases (show i = 0 by omega) with rfl; exact ⟨rfl, rfl, rfl, rfl⟩)
  have nM := blk_new w (.cells #[.int .i64 0, .int .i64 1, .int .i64 3, .bool false] 30)
  replace hB := hB.alloc hB.size (.cells #[.int .i64 0, .int .i64 1, .int .i64 3, .bool false] 30)
  go_wp2_with fail
  refine (tsample_any (some ⟨w.heap.size, 0, none⟩) (w.heap.size) 0 1 1 lS (3) _ M (by omega) (fun _ => ⟨_, _, _, nM⟩)).mono ?_; rintro e w1 ⟨rfl, hb⟩; rw [v3.1, v3.2]
  replace M := M.grown hb
  replace nM := blk_below nM hb (Array.getElem?_eq_some_iff.1 nM).1
  replace hB := below_after hB hb hB.size
  clear hb
  go_wp2_with fail
  refine (tsample_any (some ⟨w.heap.size, 0, none⟩) (w.heap.size) 0 1 1 lS (2) _ M (by omega) (fun _ => ⟨_, _, _, nM⟩)).mono ?_; rintro e w2 ⟨rfl, hb⟩; rw [v2.1, v2.2]
  replace M := M.grown hb
  replace nM := blk_below nM hb (Array.getElem?_eq_some_iff.1 nM).1
  replace hB := below_after hB hb hB.size
  clear hb
  go_wp2_with fail
  refine (tsample_any (some ⟨w.heap.size, 0, none⟩) (w.heap.size) 0 1 1 lS (4) _ M (by omega) (fun _ => ⟨_, _, _, nM⟩)).mono ?_; rintro e w3 ⟨rfl, hb⟩; rw [v4.1, v4.2]
  replace M := M.grown hb
  replace nM := blk_below nM hb (Array.getElem?_eq_some_iff.1 nM).1
  replace hB := below_after hB hb hB.size
  clear hb
  have M1 := Ts.lit w3 #[.int .i64 0, .int .i64 5, .int .i64 2, .bool false] lF 1 rfl (fun i hi => by rcases (show i = 0 by omega) with rfl; exact ⟨rfl, rfl, rfl, rfl⟩)
  have n1 := blk_new w3 (.cells #[.int .i64 0, .int .i64 5, .int .i64 2, .bool false] 30)
  replace M := M.grown ((Below.refl _ _).alloc (Nat.le_refl _) (.cells #[.int .i64 0, .int .i64 5, .int .i64 2, .bool false] 30))
  replace nM := blk_alloc nM (.cells #[.int .i64 0, .int .i64 5, .int .i64 2, .bool false] 30)
  replace hB := hB.alloc hB.size (.cells #[.int .i64 0, .int .i64 5, .int .i64 2, .bool false] 30)
  go_wp2_with fail
  refine (tsample_any (some ⟨w3.heap.size, 0, none⟩) (w3.heap.size) 0 1 1 lF (3) _ M1 (by omega) (fun _ => ⟨_, _, _, n1⟩)).mono ?_; rintro e w4 ⟨rfl, hb⟩; rw [v7.1, v7.2]
  replace M := M.grown hb
  replace nM := blk_below nM hb (Array.getElem?_eq_some_iff.1 nM).1
  replace hB := below_after hB hb hB.size
  clear hb
  clear M1 n1
  have M1 := Ts.lit w4 #[.int .i64 0, .int .i64 1048576, .int .i64 1, .bool false] lB 1 rfl (fun i hi => by rcases (show i = 0 by omega) with rfl; exact ⟨rfl, rfl, rfl, rfl⟩)
  have n1 := blk_new w4 (.cells #[.int .i64 0, .int .i64 1048576, .int .i64 1, .bool false] 30)
  replace M := M.grown ((Below.refl _ _).alloc (Nat.le_refl _) (.cells #[.int .i64 0, .int .i64 1048576, .int .i64 1, .bool false] 30))
  replace nM := blk_alloc nM (.cells #[.int .i64 0, .int .i64 1048576, .int .i64 1, .bool false] 30)
  replace hB := hB.alloc hB.size (.cells #[.int .i64 0, .int .i64 1048576, .int .i64 1, .bool false] 30)
  go_wp2_with fail
  refine (tsample_any (some ⟨w4.heap.size, 0, none⟩) (w4.heap.size) 0 1 1 lB (16777216) _ M1 (by omega) (fun _ => ⟨_, _, _, n1⟩)).mono ?_; rintro e w5 ⟨rfl, hb⟩; rw [vB.1, vB.2]
  replace M := M.grown hb
  replace nM := blk_below nM hb (Array.getElem?_eq_some_iff.1 nM).1
  replace hB := below_after hB hb hB.size
  clear hb
  clear M1 n1
  go_wp2_with fail
  refine (tsample_any none (0) 0 0 0 [] (0) _ (Ts.zero _ _) (by omega) (noBlk _ _)).mono ?_; rintro e w6 ⟨rfl, hb⟩; rw [v0.1, v0.2]
  replace M := M.grown hb
  replace nM := blk_below nM hb (Array.getElem?_eq_some_iff.1 nM).1
  replace hB := below_after hB hb hB.size
  clear hb
  go_wp2_with fail
  refine (ttick_any (some ⟨w.heap.size, 0, none⟩) w.heap.size 0 1 1 lS 0 _ M (by omega) (fun _ => ⟨_, _, _, nM⟩)).mono ?_; rintro e w7 ⟨⟨t, r, hT, rfl⟩, hb⟩; obtain ⟨rfl, rfl⟩ := tS hT
  clear hT
  replace M := M.grown hb
  replace nM := blk_below nM hb (Array.getElem?_eq_some_iff.1 nM).1
  replace hB := below_after hB hb hB.size
  clear hb
  have MR := Ts.lit w7 #[.int .i64 0, .int .i64 48, .int .i64 1, .bool true, .int .i64 100, .int .i64 24, .int .i64 1, .bool false] lR 2 rfl (fun i hi => by rcases (show i = 0 ∨ i = 1 by omega) with rfl | rfl <;> exact ⟨rfl, rfl, rfl, rfl⟩)
  have nR := blk_new w7 (.cells #[.int .i64 0, .int .i64 48, .int .i64 1, .bool true, .int .i64 100, .int .i64 24, .int .i64 1, .bool false] 30)
  replace M := M.grown ((Below.refl _ _).alloc (Nat.le_refl _) (.cells #[.int .i64 0, .int .i64 48, .int .i64 1, .bool true, .int .i64 100, .int .i64 24, .int .i64 1, .bool false] 30))
  replace nM := blk_alloc nM (.cells #[.int .i64 0, .int .i64 48, .int .i64 1, .bool true, .int .i64 100, .int .i64 24, .int .i64 1, .bool false] 30)
  replace hB := hB.alloc hB.size (.cells #[.int .i64 0, .int .i64 48, .int .i64 1, .bool true, .int .i64 100, .int .i64 24, .int .i64 1, .bool false] 30)
  go_wp2_with fail
  refine (tsample_any (some ⟨w7.heap.size, 0, none⟩) (w7.heap.size) 0 2 2 lR (100) _ MR (by omega) (fun _ => ⟨_, _, _, nR⟩)).mono ?_; rintro e w8 ⟨rfl, hb⟩; rw [vR.1, vR.2]
  replace M := M.grown hb
  replace nM := blk_below nM hb (Array.getElem?_eq_some_iff.1 nM).1
  replace MR := MR.grown hb
  replace nR := blk_below nR hb (Array.getElem?_eq_some_iff.1 nR).1
  replace hB := below_after hB hb hB.size
  clear hb
  go_wp2_with fail
  refine (tsample_any (some ⟨w7.heap.size, 0, none⟩) (w7.heap.size) 0 2 2 lR (50) _ MR (by omega) (fun _ => ⟨_, _, _, nR⟩)).mono ?_; rintro e w9 ⟨rfl, hb⟩; rw [vH.1, vH.2]
  replace M := M.grown hb
  replace nM := blk_below nM hb (Array.getElem?_eq_some_iff.1 nM).1
  replace MR := MR.grown hb
  replace nR := blk_below nR hb (Array.getElem?_eq_some_iff.1 nR).1
  replace hB := below_after hB hb hB.size
  clear hb
  obtain ⟨c0, c1, c2, c3⟩ := M.2.2 0 (by omega)
  simp [lS, nthT] at c0 c1 c2 c3
  have hbw : w.heap.size < w9.heap.size := (Array.getElem?_eq_some_iff.1 nM).1
  go_wp2_with fail
  refine (tinsert_any none 0 0 0 0 [] 0 1 3 false _ (Ts.zero _ _) (by omega) (by omega) (by omega) (fun _ => rfl)).mono ?_; rintro e w10 ⟨⟨A, R, hI, hv⟩, hb⟩; rw [iN hI] at hv
  obtain ⟨v, rfl, hO⟩ : ∃ v, e = .returned (.tuple #[v, .int .i64 0]) ∧ TsO w10 w9.heap.size v lS := by
    rcases hv with ⟨h, _⟩ | ⟨_, h⟩
    · exact absurd mS h
    · exact h
  clear hv hI A R c0 c1 c2 c3 hbw
  replace M := M.grown hb
  replace nM := blk_below nM hb (Array.getElem?_eq_some_iff.1 nM).1
  replace MR := MR.grown hb
  replace nR := blk_below nR hb (Array.getElem?_eq_some_iff.1 nR).1
  replace hB := below_after hB hb hB.size
  clear hb
  obtain ⟨a6, g6, c6, rfl, MX, -, -, -, -⟩ := hO.ts
  clear hO
  go_wp2_with fail
  refine (tsample_any (some ⟨w.heap.size, 0, none⟩) (w.heap.size) 0 1 1 lS (-1) _ M (by omega) (fun _ => ⟨_, _, _, nM⟩)).mono ?_; rintro e w11 ⟨rfl, hb⟩; rw [vA.1, vA.2]
  replace M := M.grown hb
  replace nM := blk_below nM hb (Array.getElem?_eq_some_iff.1 nM).1
  replace MR := MR.grown hb
  replace nR := blk_below nR hb (Array.getElem?_eq_some_iff.1 nR).1
  replace MX := MX.grown hb
  replace hB := below_after hB hb hB.size
  clear hb
  go_wp2_with fail
  refine (ttick_any (some ⟨w.heap.size, 0, none⟩) w.heap.size 0 1 1 lS 1099511627777 _ M (by omega) (fun _ => ⟨_, _, _, nM⟩)).mono ?_; rintro e w12 ⟨⟨t, r, hT, rfl⟩, hb⟩; obtain ⟨rfl, rfl⟩ := tA hT
  clear hT
  replace M := M.grown hb
  replace nM := blk_below nM hb (Array.getElem?_eq_some_iff.1 nM).1
  replace MR := MR.grown hb
  replace nR := blk_below nR hb (Array.getElem?_eq_some_iff.1 nR).1
  replace MX := MX.grown hb
  replace hB := below_after hB hb hB.size
  clear hb
  go_wp2_with fail
  refine (tinsert_any (some ⟨w.heap.size, 0, none⟩) w.heap.size 0 1 1 lS 1 1 0 false _ M (by omega) (by omega) (by omega) (fun h => by cases h)).mono ?_; rintro e w13 ⟨⟨A, R, hI, hv⟩, hb⟩
  obtain rfl : e = .returned (.tuple #[.slice none 0 0, .int .i64 90]) := by
    rcases hv with ⟨_, h⟩ | ⟨h, _⟩
    · exact h
    · exact absurd h (iS hI)
  clear hv hI A R
  replace M := M.grown hb
  replace nM := blk_below nM hb (Array.getElem?_eq_some_iff.1 nM).1
  replace MR := MR.grown hb
  replace nR := blk_below nR hb (Array.getElem?_eq_some_iff.1 nR).1
  replace MX := MX.grown hb
  replace hB := below_after hB hb hB.size
  clear hb
  go_wp2_with fail
  refine (same_any a6 (some ⟨w.heap.size, 0, none⟩) g6 w.heap.size 0 0 1 1 c6 1 lS lS _ MX M (by omega) (by omega) rfl).mono ?_; rintro e w14 ⟨rfl, hb⟩
  replace M := M.grown hb
  replace nM := blk_below nM hb (Array.getElem?_eq_some_iff.1 nM).1
  replace MR := MR.grown hb
  replace nR := blk_below nR hb (Array.getElem?_eq_some_iff.1 nR).1
  replace MX := MX.grown hb
  replace hB := below_after hB hb hB.size
  clear hb
  go_wp2_with fail
  refine (tcheck_any (some ⟨w.heap.size, 0, none⟩) 1 1 w.heap.size 0 lS _ M (by omega)).mono ?_; rintro e w15 ⟨rfl, hb⟩; rw [chk_yes mS]
  replace M := M.grown hb
  replace nM := blk_below nM hb (Array.getElem?_eq_some_iff.1 nM).1
  replace MR := MR.grown hb
  replace nR := blk_below nR hb (Array.getElem?_eq_some_iff.1 nR).1
  replace MX := MX.grown hb
  replace hB := below_after hB hb hB.size
  clear hb
  have M1 := Ts.lit w15 #[.int .i64 0, .int .i64 1, .int .i64 1, .bool true] lN 1 rfl (fun i hi => by rcases (show i = 0 by omega) with rfl; exact ⟨rfl, rfl, rfl, rfl⟩)
  have n1 := blk_new w15 (.cells #[.int .i64 0, .int .i64 1, .int .i64 1, .bool true] 30)
  replace M := M.grown ((Below.refl _ _).alloc (Nat.le_refl _) (.cells #[.int .i64 0, .int .i64 1, .int .i64 1, .bool true] 30))
  replace nM := blk_alloc nM (.cells #[.int .i64 0, .int .i64 1, .int .i64 1, .bool true] 30)
  replace MR := MR.grown ((Below.refl _ _).alloc (Nat.le_refl _) (.cells #[.int .i64 0, .int .i64 1, .int .i64 1, .bool true] 30))
  replace nR := blk_alloc nR (.cells #[.int .i64 0, .int .i64 1, .int .i64 1, .bool true] 30)
  replace MX := MX.grown ((Below.refl _ _).alloc (Nat.le_refl _) (.cells #[.int .i64 0, .int .i64 1, .int .i64 1, .bool true] 30))
  replace hB := hB.alloc hB.size (.cells #[.int .i64 0, .int .i64 1, .int .i64 1, .bool true] 30)
  go_wp2_with fail
  refine (tcheck_any (some ⟨w15.heap.size, 0, none⟩) 1 1 w15.heap.size 0 lN _ M1 (by omega)).mono ?_; rintro e w16 ⟨rfl, hb⟩; rw [chk_no mN]
  replace hB := below_after hB hb hB.size
  clear hb
  go_wp2
  go_ret
  exact ⟨rfl, hB⟩
end Go.Proofs.Ytcgndcapdodhlaa
