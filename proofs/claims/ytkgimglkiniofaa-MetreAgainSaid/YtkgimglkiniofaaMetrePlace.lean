/- The contract of metre.Place (layer 10). -/
import Derived.Test.YtkgimglkiniofaaMetreTick
import Derived.Deep.RegionWith
import Derived.Test.YtkgimglkiniofaaRound
namespace Go.Proofs.Ytkgimglkiniofaa
open Go.RowKit Go.Shelf

attribute [local go_sem] Oper.semAt_some

/-- What the loop of Place finds at stretch k. -/
def SpotAt (l : List Mt) (tick : Int) (k : Nat) (B b o : Int) : Prop :=
  tick - tickOf l k < (endOf l k - (nthM l k).1) * lenOf l k ∧ B = (nthM l k).1 + (tick - tickOf l k).tdiv (lenOf l k) ∧ b = ((tick - tickOf l k).tmod (lenOf l k)).tdiv (nthM l k).2.2 ∧ o = (tick - tickOf l k).tmod (nthM l k).2.2
/-- These stretches end at the tick or before. -/
def AllPast (l : List Mt) (tick : Int) {n : Nat} (pre : List (Ix n)) : Prop := ∀ y ∈ pre, tickOf l (y.1 + 1) ≤ tick
theorem AllPast.snoc {l : List Mt} {tick : Int} {n : Nat} {pre : List (Ix n)} {x : Ix n} (h : AllPast l tick pre) (hx : tickOf l (x.1 + 1) ≤ tick) : AllPast l tick (pre ++ [x]) :=
  fun y hy => (List.mem_append.1 hy).elim (h y) (fun e => by rw [List.mem_singleton.1 e]; exact hx)
def PlaceIs (l : List Mt) (tick B b o e : Int) : Prop :=
  (∃ k, k < l.length ∧ (∀ j, j < k → tickOf l (j + 1) ≤ tick) ∧ SpotAt l tick k B b o ∧ e = 0) ∨ ((∀ j, j < l.length → tickOf l (j + 1) ≤ tick) ∧ B = 0 ∧ b = 0 ∧ o = 0 ∧ e = 70)

theorem tdiv_abs (x y : Int) : (x.tdiv y).natAbs ≤ x.natAbs := by rw [Int.natAbs_tdiv]; exact Nat.div_le_self _ _
theorem tmod_abs (x y : Int) : (x.tmod y).natAbs ≤ x.natAbs := by rw [Int.natAbs_tmod]; exact Nat.mod_le _ _

theorem tdiv_bd {M x : Int} (y : Int) (h1 : -M ≤ x) (h2 : x ≤ M) : -M ≤ x.tdiv y ∧ x.tdiv y ≤ M := by
  have h := tdiv_abs x y
  rcases Int.natAbs_eq x with e | e <;> rcases Int.natAbs_eq (x.tdiv y) with f | f <;> omega
theorem tmod_bd {M x : Int} (y : Int) (h1 : -M ≤ x) (h2 : x ≤ M) : -M ≤ x.tmod y ∧ x.tmod y ≤ M := by
  have h := tmod_abs x y
  rcases Int.natAbs_eq x with e | e <;> rcases Int.natAbs_eq (x.tmod y) with f | f <;> omega
theorem wrap_id {x : Int} (h : -9223372036854775808 ≤ x ∧ x ≤ 9223372036854775807) : IntKind.i64.wrap x = x := by
  rw [IntKind.wrap_i64]; omega

set_option maxRecDepth 100000 in
set_option maxHeartbeats 4000000 in
theorem place_in (b off len cap : Nat) (l : List Mt) (tick : Int) (w : World) (hch : Changes l) (hlen : l.length = len) (c : Array Value) (tb : TypeId) (fr : Nat × Nat) (hb : w.heap[b]? = some (.cells c tb fr)) (hM : Ms w (some ⟨b, off, none⟩) len b off l) (ht : 0 ≤ tick ∧ tick ≤ 16777216) :
    CallsIn Fence.wide 5 Try.prog 15 #[.slice (some ⟨b, off, none⟩) len cap, .int .i64 tick] w fun e w' => Below w.heap.size w w' ∧ ∃ B b o r, PlaceIs l tick B b o r ∧ e = .returned (.tuple #[.int .i64 B, .int .i64 b, .int .i64 o, .int .i64 r]) := by
  have hro : Fence.wide.round = none := rfl
  have hbw : b < w.heap.size := (Array.getElem?_eq_some_iff.1 hb).1
  have hc0 := chk_yes hch
  refine callsIn_of_wp_marks Try.func15 rfl trivial ?_ hro
  simp only [Try.ntmps15, List.size_toArray, List.length_cons, List.length_nil, Nat.reduceAdd, Nat.reduceSub, Array.replicate_succ, Array.replicate_zero, List.push_toArray, List.append_toArray, List.nil_append, List.cons_append]
  obtain ⟨w0, hw0⟩ : ∃ w0, w0 = ((((w.alloc (.cells #[.int .i64 tick] 3)).alloc (.cells #[.int .i64 0] 3)).alloc (.cells #[.int .i64 0] 3)).alloc (.cells #[.int .i64 0] 3)).alloc (.cells #[.int .i64 0] 24) := ⟨_, rfl⟩
  have hB0 : Below w.heap.size w w0 := by rw [hw0]; go_grown
  have hM0 := hM.grown hB0
  gi_wp2
  refine wpIn_scope_wide ?_
  gi_wp2_with fail
  refine ⟨trivial, ?_⟩
  have z0 : w0.heap.size = w.heap.size + 5 := by rw [hw0]; simp
  have k0 : w0.heap[w.heap.size]? = some (.cells #[.int .i64 tick] 3 (0, 0)) := by rw [hw0]; have := blk_new w (.cells #[.int .i64 tick] 3); exact blk_alloc (blk_alloc (blk_alloc (blk_alloc (this) _) _) _) _
  have k1 : w0.heap[w.heap.size + 1]? = some (.cells #[.int .i64 0] 3 (0, 0)) := by rw [hw0]; have := blk_new (w.alloc (.cells #[.int .i64 tick] 3)) (.cells #[.int .i64 0] 3); rw [World.size_alloc] at this; exact blk_alloc (blk_alloc (blk_alloc (this) _) _) _
  have k2 : w0.heap[w.heap.size + 1 + 1]? = some (.cells #[.int .i64 0] 3 (0, 0)) := by rw [hw0]; have := blk_new ((w.alloc (.cells #[.int .i64 tick] 3)).alloc (.cells #[.int .i64 0] 3)) (.cells #[.int .i64 0] 3); rw [World.size_alloc, World.size_alloc] at this; exact blk_alloc (blk_alloc (this) _) _
  have k3 : w0.heap[w.heap.size + 1 + 1 + 1]? = some (.cells #[.int .i64 0] 3 (0, 0)) := by rw [hw0]; have := blk_new (((w.alloc (.cells #[.int .i64 tick] 3)).alloc (.cells #[.int .i64 0] 3)).alloc (.cells #[.int .i64 0] 3)) (.cells #[.int .i64 0] 3); rw [World.size_alloc, World.size_alloc, World.size_alloc] at this; exact blk_alloc (this) _
  have k4 : w0.heap[w.heap.size + 1 + 1 + 1 + 1]? = some (.cells #[.int .i64 0] 24 (0, 0)) := by rw [hw0]; have := blk_new ((((w.alloc (.cells #[.int .i64 tick] 3)).alloc (.cells #[.int .i64 0] 3)).alloc (.cells #[.int .i64 0] 3)).alloc (.cells #[.int .i64 0] 3)) (.cells #[.int .i64 0] 24); rw [World.size_alloc, World.size_alloc, World.size_alloc, World.size_alloc] at this; exact this
  rw [← hw0]
  refine (callsIn_wide.2 (mcheck_any _ _ _ b off l _ hM0 (by have := hch.2.1; omega))).mono ?_
  rintro e w1 ⟨rfl, hb1⟩
  rw [hc0]
  replace k0 := blk_below k0 hb1 (by omega)
  replace k1 := blk_below k1 hb1 (by omega)
  replace k2 := blk_below k2 hb1 (by omega)
  replace k3 := blk_below k3 hb1 (by omega)
  replace k4 := blk_below k4 hb1 (by omega)
  have z1 := hb1.size
  have B1 := below_after hB0 hb1 (by omega)
  have c0 := blk_cell k0 0
  have c4 := blk_cell k4 0; have f4 := blk_free k4 0
  simp at c0 c4 f4
  have K0 := Lib.hid k0; have K1 := Lib.hid k1; have K2 := Lib.hid k2; have K3 := Lib.hid k3; have K4 := Lib.hid k4
  clear k0 k1 k2 k3 k4 hb1 hw0 hc0
  gi_wp2_with fail
  refine ⟨trivial, ?_⟩
  refine (callsIn_wide.2 (within_any _ _ _ _)).mono ?_
  rintro e w' ⟨rfl, rfl⟩
  rw [within_t ht]
  gi_wp2
  refine wpIn_label ?_
  gi_wp2_with fail
  refine ⟨trivial, ?_⟩
  refine (stretches_in Fence.wide _ trivial rfl _ _ _ _).mono ?_
  rintro e w' ⟨rfl, rfl⟩
  gi_wp2
  obtain ⟨W0, hW0⟩ : ∃ W0, W0 = (w1.setCell ⟨w.heap.size + 1 + 1 + 1 + 1, 0, none⟩ (.int .i64 70)).alloc (.cells #[.slice (some ⟨b, off, none⟩) len cap] 22) := ⟨_, rfl⟩
  have zW : W0.heap.size = w1.heap.size + 1 := by rw [hW0]; simp
  have hBW : Below w.heap.size w W0 := by rw [hW0]; exact ((B1.setCell (p := ⟨w.heap.size + 1 + 1 + 1 + 1, 0, none⟩) (show w.heap.size ≤ w.heap.size + 1 + 1 + 1 + 1 by omega) _).alloc (by simp; omega) _)
  have j0 : W0.heap[w.heap.size]? = some (.cells #[.int .i64 tick] 3 (0, 0)) := by rw [hW0]; exact blk_alloc ((Below.heap_setCell _ _ _ _ (show w.heap.size ≠ w.heap.size + 1 + 1 + 1 + 1 by omega)).trans K0.out) _
  have j1 : W0.heap[w.heap.size + 1]? = some (.cells #[.int .i64 0] 3 (0, 0)) := by rw [hW0]; exact blk_alloc ((Below.heap_setCell _ _ _ _ (show w.heap.size + 1 ≠ w.heap.size + 1 + 1 + 1 + 1 by omega)).trans K1.out) _
  have j2 : W0.heap[w.heap.size + 1 + 1]? = some (.cells #[.int .i64 0] 3 (0, 0)) := by rw [hW0]; exact blk_alloc ((Below.heap_setCell _ _ _ _ (show w.heap.size + 1 + 1 ≠ w.heap.size + 1 + 1 + 1 + 1 by omega)).trans K2.out) _
  have j3 : W0.heap[w.heap.size + 1 + 1 + 1]? = some (.cells #[.int .i64 0] 3 (0, 0)) := by rw [hW0]; exact blk_alloc ((Below.heap_setCell _ _ _ _ (show w.heap.size + 1 + 1 + 1 ≠ w.heap.size + 1 + 1 + 1 + 1 by omega)).trans K3.out) _
  have j4 : W0.heap[w.heap.size + 1 + 1 + 1 + 1]? = some (.cells #[.int .i64 70] 24 (0, 0)) := by rw [hW0]; exact blk_alloc (one_setCell K4.out) _
  have jB : W0.heap[w1.heap.size]? = some (.cells #[.slice (some ⟨b, off, none⟩) len cap] 22 (0, 0)) := by
    rw [hW0]; have := blk_new (w1.setCell ⟨w.heap.size + 1 + 1 + 1 + 1, 0, none⟩ (.int .i64 70)) (.cells #[.slice (some ⟨b, off, none⟩) len cap] 22); rwa [World.size_setCell] at this
  have jb := blk_below hb hBW hbw
  have jM := hM.below hBW hbw
  rw [← hW0]
  clear c0 c4 f4
  refine wpIn_rangeFunc_ownH rfl (by omega) (gf := 26) (lb := #[.pointer (some ⟨w1.heap.size, 0, none⟩)]) rfl trivial (enters_of Try.func26 (by kernel_rfl) rfl)
    (stretches_stops Fence.wide _ trivial rfl (by omega) w1.heap.size b off len cap l (fun k => k = w.heap.size + 1 ∨ k = w.heap.size + 1 + 1 ∨ k = w.heap.size + 1 + 1 + 1 ∨ k = w.heap.size + 1 + 1 + 1 + 1) hch hlen W0 (by omega) (by omega) (fun k hk => by omega) c tb fr jb jB jM)
    kpEx_t kpEx_b (Below.refl _ _) (fun _ => rfl)
    (fun pre W => ((W.heap[w.heap.size]? = some (.cells #[.int .i64 tick] 3 (0, 0)) ∧ W.heap[w.heap.size + 1]? = some (.cells #[.int .i64 0] 3 (0, 0)) ∧ W.heap[w.heap.size + 1 + 1]? = some (.cells #[.int .i64 0] 3 (0, 0)) ∧ W.heap[w.heap.size + 1 + 1 + 1]? = some (.cells #[.int .i64 0] 3 (0, 0)) ∧ W.heap[w.heap.size + 1 + 1 + 1 + 1]? = some (.cells #[.int .i64 70] 24 (0, 0))) ∧ AllPast l tick pre) ∧ Below w.heap.size w W)
    (fun c pre W => (c = .exit 0 ∧ ∃ pre' y B bt o, pre = pre' ++ [y] ∧ AllPast l tick pre' ∧ SpotAt l tick y.1 B bt o ∧ W.heap[w.heap.size + 1]? = some (.cells #[.int .i64 B] 3 (0, 0)) ∧ W.heap[w.heap.size + 1 + 1]? = some (.cells #[.int .i64 bt] 3 (0, 0)) ∧ W.heap[w.heap.size + 1 + 1 + 1]? = some (.cells #[.int .i64 o] 3 (0, 0)) ∧ W.heap[w.heap.size + 1 + 1 + 1 + 1]? = some (.cells #[.int .i64 0] 24 (0, 0))) ∧ Below w.heap.size w W)
    (OwnFrom.and (Own.from (fun s A B row hs hg hr => ⟨⟨blk_kept hs.1.1 hg hr, blk_kept hs.1.2.1 hg hr, blk_kept hs.1.2.2.1 hg hr, blk_kept hs.1.2.2.2.1 hg hr, blk_kept hs.1.2.2.2.2 hg hr⟩, hs.2⟩) _) (ownFrom_below (Nat.le_refl _) (by omega)))
    (fun c => OwnFrom.and (Own.from (fun s A B row hs hg hr => by obtain ⟨h1, pre', y, B, bt, o, h2, h3, h4, h5, h6, h7, h8⟩ := hs; exact ⟨h1, pre', y, B, bt, o, h2, h3, h4, blk_kept h5 hg hr, blk_kept h6 hg hr, blk_kept h7 hg hr, blk_kept h8 hg hr⟩) _) (ownFrom_below (Nat.le_refl _) (by omega)))
    ⟨⟨⟨j0, j1, j2, j3, j4⟩, fun y hy => by cases hy⟩, hBW⟩
    (fun x a' W => ∃ Bx, w.heap.size + 1 + 1 + 1 + 1 < Bx ∧ W.heap[Bx]? = some (.cells #[.int .i64 (nthM l x.1).1, .int .i64 (nthM l x.1).2.1, .int .i64 (nthM l x.1).2.2, .int .i64 (endOf l x.1), .int .i64 (lenOf l x.1)] 45 (0, 0)) ∧ a' = { tmps := #[.slice (some ⟨b, off, none⟩) len cap, .int .i64 tick, undef, .pointer (some ⟨w.heap.size, 0, none⟩), .pointer (some ⟨w.heap.size + 1, 0, none⟩), .pointer (some ⟨w.heap.size + 1 + 1, 0, none⟩), .pointer (some ⟨w.heap.size + 1 + 1 + 1, 0, none⟩), .pointer (some ⟨w.heap.size + 1 + 1 + 1 + 1, 0, none⟩), .int .i64 0, .int .i64 (tickOf l x.1), .pointer (some ⟨Bx, 0, none⟩), undef, .slice (some ⟨b, off, none⟩) len cap, .int .i64 0, .int .i64 0, .bool false, undef, .int .i64 tick, .bool true, .bool false, .slice (some ⟨b, off, none⟩) len cap, .func (.func 26) #[] #[.pointer (some ⟨w1.heap.size, 0, none⟩)], .int .i64 (tickOf l x.1), .agg #[.int .i64 (nthM l x.1).fst, .int .i64 (nthM l x.1).snd.fst, .int .i64 (nthM l x.1).snd.snd, .int .i64 (endOf l x.1), .int .i64 (lenOf l x.1)], undef, undef, undef, undef, undef, undef, undef, undef, undef, undef, undef, undef, undef, undef, undef, undef, undef, undef, undef, undef, undef, undef, undef, undef, undef, undef, undef, undef, undef, undef, undef, undef, undef, undef, undef, undef, undef, undef, undef], defers := [] })
    (fun x a' => Own.from (fun s A B row hs hg hr => by obtain ⟨Bx, h1, h2, h3⟩ := hs; exact ⟨Bx, h1, blk_kept h2 hg hr, h3⟩) _) ?assign ?body ?done ?stop
  case assign =>
    rintro lp pre x W K ⟨⟨h5, h7⟩, hB⟩ hK
    simp only [encS]
    gi_wp2
    refine hK _ _ ((KeepsOthers.alloc _ _).from _) (KpEx.alloc _ _ _) ⟨⟨⟨blk_alloc h5.1 _, blk_alloc h5.2.1 _, blk_alloc h5.2.2.1 _, blk_alloc h5.2.2.2.1 _, blk_alloc h5.2.2.2.2 _⟩, h7⟩, hB.alloc hB.size _⟩ ⟨W.heap.size, ?_, blk_new W _, rfl⟩
    exact (Array.getElem?_eq_some_iff.1 h5.2.2.2.2).1
  case body =>
    rintro lp pre x a' W _ _ ⟨⟨⟨h0, h1, h2, h3, h4⟩, h5⟩, hB⟩ ⟨Bx, hBx, hX, rfl⟩ _
    have b0 := blk_cell h0 0
    have b1 := blk_cell h1 0; have b2 := blk_cell h2 0
    have b3 := blk_cell h3 0; have b4 := blk_cell h4 0; have g1 := blk_free h1 0; have g2 := blk_free h2 0; have g3 := blk_free h3 0; have g4 := blk_free h4 0
    have x0 := blk_cell hX 0; have x1 := blk_cell hX 1; have x2 := blk_cell hX 2; have x3 := blk_cell hX 3; have x4 := blk_cell hX 4
    simp at b0 b1 b2 b3 b4 g1 g2 g3 g4 x0 x1 x2 x3 x4
    have hxl : x.1 < l.length := by rw [hlen]; exact x.2
    have hm := (hch.2.2.2 x.1 hxl).1
    have tx : x.1 ≤ 64 := by have := hch.2.1; omega
    have ln := lenOf_bd hm
    have en := endOf_bd hch hxl
    have tk := tickOf_bd hch x.1 (by omega)
    have HI := Lib.hid (show _ ∧ _ ∧ _ ∧ _ ∧ _ from ⟨h0, h1, h2, h3, h4⟩)
    have H5 := Lib.hid h5
    have HX := Lib.hid hX
    clear h0 h1 h2 h3 h4 hX h5 hch hM hlen hM0 jM
    obtain ⟨m1, m2, m3, m4, m5, m6⟩ := hm
    obtain ⟨tk0, tk1⟩ := tk
    obtain ⟨ln0, ln1⟩ := ln
    obtain ⟨en0, en1⟩ := en
    obtain ⟨t0, t1⟩ := ht
    have pm1 : (endOf l x.1 - (nthM l x.1).1) * lenOf l x.1 ≤ 1048577 * lenOf l x.1 := Int.mul_le_mul_of_nonneg_right (by omega) (by omega)
    have pm0 : 0 ≤ (endOf l x.1 - (nthM l x.1).1) * lenOf l x.1 := Int.mul_nonneg (by omega) (by omega)
    have es : tickOf l (x.1 + 1) = tickOf l x.1 + (endOf l x.1 - (nthM l x.1).1) * lenOf l x.1 := rfl
    have HE := Lib.hid es; clear es
    have dx : -1125899906842624 ≤ tick - tickOf l x.1 ∧ tick - tickOf l x.1 ≤ 1125899906842624 := by omega
    have d1 := tdiv_bd (lenOf l x.1) dx.1 dx.2
    have d2 := tmod_bd (lenOf l x.1) dx.1 dx.2
    have d3 := tmod_bd (nthM l x.1).2.2 dx.1 dx.2
    have d4 := tdiv_bd (nthM l x.1).2.2 d2.1 d2.2
    by_cases q1 : (endOf l x.1 - (nthM l x.1).1) * lenOf l x.1 ≤ tick - tickOf l x.1
    · gi_wp2
      exact ⟨KeepsFrom.refl _ _, KpEx.refl _ _, ⟨HI.out, H5.out.snoc (by rw [HE.out]; omega)⟩, hB⟩
    · gi_wp2
      have hl0 : (lenOf l x.1 = 0) = False := by simp; omega
      have hu0 : ((nthM l x.1).2.2 = 0) = False := by simp; omega
      have wq1 : IntKind.i64.wrap ((tick - tickOf l x.1).tdiv (lenOf l x.1)) = (tick - tickOf l x.1).tdiv (lenOf l x.1) := wrap_id (by omega)
      have wq2 : IntKind.i64.wrap ((nthM l x.1).1 + (tick - tickOf l x.1).tdiv (lenOf l x.1)) = (nthM l x.1).1 + (tick - tickOf l x.1).tdiv (lenOf l x.1) := wrap_id (by omega)
      have wq3 : IntKind.i64.wrap (((tick - tickOf l x.1).tmod (lenOf l x.1)).tdiv (nthM l x.1).2.2) = ((tick - tickOf l x.1).tmod (lenOf l x.1)).tdiv (nthM l x.1).2.2 := wrap_id (by omega)
      refine wpIn_round_head 8 (fun w' => w'.cell? ⟨Bx, 0, none⟩ = some (.int .i64 (nthM l x.1).1) ∧ w'.cell? ⟨Bx, 2, none⟩ = some (.int .i64 (nthM l x.1).2.2) ∧ w'.cell? ⟨Bx, 4, none⟩ = some (.int .i64 (lenOf l x.1))) (by kernel_rfl) (by kernel_rfl) (by rintro ⟨a, w, h⟩; exact h) (fun _ _ _ _ _ h => h) (by kernel_rfl) (by decide) (by kernel_rfl) ⟨x0, x2, x4⟩ ?_
      simp only [List.take_succ_cons, List.take_zero]
      iterate 8
        apply wpHeld_cons
        case hw => kernel_rfl
        case h => rintro w' ⟨s0, s2, s4⟩; go_simp; first | rfl | (simp only [hl0, hu0, if_false, ite_false, wq1, wq2, wq3]; rfl) | (simp [go_sem, hl0, hu0, wq1, wq2, wq3]; rfl)
      refine wpHeld_nil ?_
      go_simp
      refine wpAnyH_one (i := 8) (by kernel_rfl) rfl (by kernel_rfl) (fun K' hK' => ?_)
      go_simp
      refine hK' _ _ ⟨(World.cell?_setCell_far _ _ _ _ (by simp; omega)).trans x0, (World.cell?_setCell_far _ _ _ _ (by simp; omega)).trans x2, (World.cell?_setCell_far _ _ _ _ (by simp; omega)).trans x4⟩ ?_
      clear hK' K'
      refine wpAnyH_one (i := 9) (by kernel_rfl) rfl (by kernel_rfl) (fun K' hK' => ?_)
      go_simp
      refine hK' _ _ ⟨(World.cell?_setCell_far _ _ _ _ (by simp; omega)).trans ((World.cell?_setCell_far _ _ _ _ (by simp; omega)).trans x0), (World.cell?_setCell_far _ _ _ _ (by simp; omega)).trans ((World.cell?_setCell_far _ _ _ _ (by simp; omega)).trans x2), (World.cell?_setCell_far _ _ _ _ (by simp; omega)).trans ((World.cell?_setCell_far _ _ _ _ (by simp; omega)).trans x4)⟩ ?_
      clear hK' K'
      go_simp
      refine wpAnyH_done (by kernel_rfl) ?_ _
      obtain ⟨W2, hW2⟩ : ∃ W2, W2 = (((W.setCell ⟨w.heap.size + 1, 0, none⟩ (.int .i64 ((nthM l x.1).1 + (tick - tickOf l x.1).tdiv (lenOf l x.1)))).setCell ⟨w.heap.size + 1 + 1 + 1 + 1, 0, none⟩ (.int .i64 (0))).drew) := ⟨_, rfl⟩
      have hB2 : Below w.heap.size w W2 := by rw [hW2]; exact ((hB.setCell (p := ⟨w.heap.size + 1, 0, none⟩) (show w.heap.size ≤ w.heap.size + 1 by omega) _).setCell (p := ⟨w.heap.size + 1 + 1 + 1 + 1, 0, none⟩) (show w.heap.size ≤ w.heap.size + 1 + 1 + 1 + 1 by omega) _).drew
      have hKO : KeepsOthers W W2 := by rw [hW2]; exact (((KeepsOthers.setCell _ _ _).trans (KeepsOthers.setCell _ _ _)).trans (KeepsOthers.drew _))
      have n1 : W2.heap[w.heap.size + 1]? = some (.cells #[.int .i64 ((nthM l x.1).1 + (tick - tickOf l x.1).tdiv (lenOf l x.1))] 3 (0, 0)) := by rw [hW2]; exact blk_drew ((Below.heap_setCell _ _ _ _ (show w.heap.size + 1 ≠ w.heap.size + 1 + 1 + 1 + 1 by omega)).trans (one_setCell HI.out.2.1))
      have n2 : W2.heap[w.heap.size + 1 + 1]? = some (.cells #[.int .i64 (0)] 3 (0, 0)) := by rw [hW2]; exact blk_drew ((Below.heap_setCell _ _ _ _ (show w.heap.size + 1 + 1 ≠ w.heap.size + 1 + 1 + 1 + 1 by omega)).trans ((Below.heap_setCell _ _ _ _ (show w.heap.size + 1 + 1 ≠ w.heap.size + 1 by omega)).trans HI.out.2.2.1))
      have n3 : W2.heap[w.heap.size + 1 + 1 + 1]? = some (.cells #[.int .i64 (0)] 3 (0, 0)) := by rw [hW2]; exact blk_drew ((Below.heap_setCell _ _ _ _ (show w.heap.size + 1 + 1 + 1 ≠ w.heap.size + 1 + 1 + 1 + 1 by omega)).trans ((Below.heap_setCell _ _ _ _ (show w.heap.size + 1 + 1 + 1 ≠ w.heap.size + 1 by omega)).trans HI.out.2.2.2.1))
      have n4 : W2.heap[w.heap.size + 1 + 1 + 1 + 1]? = some (.cells #[.int .i64 (0)] 24 (0, 0)) := by rw [hW2]; exact blk_drew (one_setCell ((Below.heap_setCell _ _ _ _ (show w.heap.size + 1 + 1 + 1 + 1 ≠ w.heap.size + 1 by omega)).trans HI.out.2.2.2.2))
      have nX : W2.heap[Bx]? = some (.cells #[.int .i64 (nthM l x.1).1, .int .i64 (nthM l x.1).2.1, .int .i64 (nthM l x.1).2.2, .int .i64 (endOf l x.1), .int .i64 (lenOf l x.1)] 45 (0, 0)) := by rw [hW2]; exact blk_drew ((Below.heap_setCell _ _ _ _ (show Bx ≠ w.heap.size + 1 + 1 + 1 + 1 by omega)).trans ((Below.heap_setCell _ _ _ _ (show Bx ≠ w.heap.size + 1 by omega)).trans HX.out))
      rw [← hW2]
      clear hW2 b1 b2 b3 b4 g1 g2 g3 g4 x0 x1 x2 x3 x4
      have x0 := blk_cell nX 0; have x2 := blk_cell nX 2; have x4 := blk_cell nX 4
      have b2 := blk_cell n2 0; have b3 := blk_cell n3 0; have g2 := blk_free n2 0; have g3 := blk_free n3 0
      simp at x0 x2 x4 b2 b3 g2 g3
      have HN := Lib.hid (show _ ∧ _ ∧ _ ∧ _ from ⟨n1, n2, n3, n4⟩)
      clear n1 n2 n3 n4 nX
      gi_wp2
      refine wpIn_round_head 13 (fun w' => w'.cell? ⟨Bx, 0, none⟩ = some (.int .i64 (nthM l x.1).1) ∧ w'.cell? ⟨Bx, 2, none⟩ = some (.int .i64 (nthM l x.1).2.2) ∧ w'.cell? ⟨Bx, 4, none⟩ = some (.int .i64 (lenOf l x.1))) (by kernel_rfl) (by kernel_rfl) (by rintro ⟨a, w, h⟩; exact h) (fun _ _ _ _ _ h => h) (by kernel_rfl) (by decide) (by kernel_rfl) ⟨x0, x2, x4⟩ ?_
      simp only [List.take_succ_cons, List.take_zero]
      iterate 13
        apply wpHeld_cons
        case hw => kernel_rfl
        case h => rintro w' ⟨s0, s2, s4⟩; go_simp; first | rfl | (simp only [hl0, hu0, if_false, ite_false, wq1, wq2, wq3]; rfl) | (simp [go_sem, hl0, hu0, wq1, wq2, wq3]; rfl)
      refine wpHeld_nil ?_
      go_simp
      refine wpAnyH_one (i := 13) (by kernel_rfl) rfl (by kernel_rfl) (fun K' hK' => ?_)
      go_simp
      refine hK' _ _ ⟨(World.cell?_setCell_far _ _ _ _ (by simp; omega)).trans x0, (World.cell?_setCell_far _ _ _ _ (by simp; omega)).trans x2, (World.cell?_setCell_far _ _ _ _ (by simp; omega)).trans x4⟩ ?_
      clear hK' K'
      refine wpAnyH_one (i := 14) (by kernel_rfl) rfl (by kernel_rfl) (fun K' hK' => ?_)
      go_simp
      refine hK' _ _ ⟨(World.cell?_setCell_far _ _ _ _ (by simp; omega)).trans ((World.cell?_setCell_far _ _ _ _ (by simp; omega)).trans x0), (World.cell?_setCell_far _ _ _ _ (by simp; omega)).trans ((World.cell?_setCell_far _ _ _ _ (by simp; omega)).trans x2), (World.cell?_setCell_far _ _ _ _ (by simp; omega)).trans ((World.cell?_setCell_far _ _ _ _ (by simp; omega)).trans x4)⟩ ?_
      clear hK' K'
      go_simp
      refine wpAnyH_done (by kernel_rfl) ?_ _
      gi_wp2
      refine ⟨(((hKO.trans (KeepsOthers.setCell _ _ _)).trans (KeepsOthers.setCell _ _ _)).trans (KeepsOthers.drew _)).from _, ⟨rfl, pre, x, (nthM l x.1).1 + (tick - tickOf l x.1).tdiv (lenOf l x.1), ((tick - tickOf l x.1).tmod (lenOf l x.1)).tdiv (nthM l x.1).2.2, (tick - tickOf l x.1).tmod (nthM l x.1).2.2, rfl, H5.out, ⟨by omega, rfl, rfl, rfl⟩, ?_, ?_, ?_, ?_⟩, ((hB2.setCell (p := ⟨w.heap.size + 1 + 1, 0, none⟩) (show w.heap.size ≤ w.heap.size + 1 + 1 by omega) _).setCell (p := ⟨w.heap.size + 1 + 1 + 1, 0, none⟩) (show w.heap.size ≤ w.heap.size + 1 + 1 + 1 by omega) _).drew⟩
      · exact blk_drew ((Below.heap_setCell _ _ _ _ (show w.heap.size + 1 ≠ w.heap.size + 1 + 1 + 1 by omega)).trans ((Below.heap_setCell _ _ _ _ (show w.heap.size + 1 ≠ w.heap.size + 1 + 1 by omega)).trans HN.out.1))
      · exact blk_drew ((Below.heap_setCell _ _ _ _ (show w.heap.size + 1 + 1 ≠ w.heap.size + 1 + 1 + 1 by omega)).trans (one_setCell HN.out.2.1))
      · exact blk_drew (one_setCell ((Below.heap_setCell _ _ _ _ (show w.heap.size + 1 + 1 + 1 ≠ w.heap.size + 1 + 1 by omega)).trans HN.out.2.2.1))
      · exact blk_drew ((Below.heap_setCell _ _ _ _ (show w.heap.size + 1 + 1 + 1 + 1 ≠ w.heap.size + 1 + 1 + 1 by omega)).trans ((Below.heap_setCell _ _ _ _ (show w.heap.size + 1 + 1 + 1 + 1 ≠ w.heap.size + 1 + 1 by omega)).trans HN.out.2.2.2))
  case done =>
    rintro D xs W hD hxs ⟨⟨⟨h0, h1, h2, h3, h4⟩, h5⟩, hB⟩ hDf
    have b1 := blk_cell h1 0; have b2 := blk_cell h2 0; have b3 := blk_cell h3 0; have b4 := blk_cell h4 0; have g1 := blk_free h1 0; have g2 := blk_free h2 0; have g3 := blk_free h3 0; have g4 := blk_free h4 0
    simp at b1 b2 b3 b4 g1 g2 g3 g4
    have HT : PlaceIs l tick 0 0 0 70 := .inr ⟨fun j hj => by obtain ⟨y, hy, rfl⟩ := firstK_mem hxs (hlen ▸ hj); exact h5 y hy, rfl, rfl, rfl, rfl⟩
    rename_i K hK
    refine hK _ _ (wpIn_wide.2 ?_)
    go_wp2_with fail
    have HH := Lib.hid (show _ ∧ _ ∧ _ ∧ _ from ⟨h1, h2, h3, h4⟩); have H5 := Lib.hid h5; have HTT := Lib.hid HT
    clear h0 h1 h2 h3 h4 h5 hch hM hM0 HT
    go_region
    go_wp2_with fail
    have hD2 : ((((W.setCell ⟨w.heap.size + 1, 0, none⟩ (.int .i64 0)).setCell ⟨w.heap.size + 1 + 1, 0, none⟩ (.int .i64 0)).setCell ⟨w.heap.size + 1 + 1 + 1, 0, none⟩ (.int .i64 0)).setCell ⟨w.heap.size + 1 + 1 + 1 + 1, 0, none⟩ (.int .i64 70)).drew.heap[D]? = some (.deferred (some [])) := blk_drew ((Below.heap_setCell _ _ _ _ (show D ≠ w.heap.size + 1 + 1 + 1 + 1 by omega)).trans ((Below.heap_setCell _ _ _ _ (show D ≠ w.heap.size + 1 + 1 + 1 by omega)).trans ((Below.heap_setCell _ _ _ _ (show D ≠ w.heap.size + 1 + 1 by omega)).trans ((Below.heap_setCell _ _ _ _ (show D ≠ w.heap.size + 1 by omega)).trans (hDf)))))
    have t1 : ((((((W.setCell ⟨w.heap.size + 1, 0, none⟩ (.int .i64 0)).setCell ⟨w.heap.size + 1 + 1, 0, none⟩ (.int .i64 0)).setCell ⟨w.heap.size + 1 + 1 + 1, 0, none⟩ (.int .i64 0)).setCell ⟨w.heap.size + 1 + 1 + 1 + 1, 0, none⟩ (.int .i64 70)).drew).putObj D (.deferred none)).cell? ⟨w.heap.size + 1, 0, none⟩ = some (.int .i64 0) := blk_cell ((World.putObj_heap_other (show w.heap.size + 1 ≠ D by omega)).trans (blk_drew ((Below.heap_setCell _ _ _ _ (show w.heap.size + 1 ≠ w.heap.size + 1 + 1 + 1 + 1 by omega)).trans ((Below.heap_setCell _ _ _ _ (show w.heap.size + 1 ≠ w.heap.size + 1 + 1 + 1 by omega)).trans ((Below.heap_setCell _ _ _ _ (show w.heap.size + 1 ≠ w.heap.size + 1 + 1 by omega)).trans (one_setCell HH.out.1)))))) 0
    have t2 : ((((((W.setCell ⟨w.heap.size + 1, 0, none⟩ (.int .i64 0)).setCell ⟨w.heap.size + 1 + 1, 0, none⟩ (.int .i64 0)).setCell ⟨w.heap.size + 1 + 1 + 1, 0, none⟩ (.int .i64 0)).setCell ⟨w.heap.size + 1 + 1 + 1 + 1, 0, none⟩ (.int .i64 70)).drew).putObj D (.deferred none)).cell? ⟨w.heap.size + 1 + 1, 0, none⟩ = some (.int .i64 0) := blk_cell ((World.putObj_heap_other (show w.heap.size + 1 + 1 ≠ D by omega)).trans (blk_drew ((Below.heap_setCell _ _ _ _ (show w.heap.size + 1 + 1 ≠ w.heap.size + 1 + 1 + 1 + 1 by omega)).trans ((Below.heap_setCell _ _ _ _ (show w.heap.size + 1 + 1 ≠ w.heap.size + 1 + 1 + 1 by omega)).trans (one_setCell ((Below.heap_setCell _ _ _ _ (show w.heap.size + 1 + 1 ≠ w.heap.size + 1 by omega)).trans HH.out.2.1)))))) 0
    have t3 : ((((((W.setCell ⟨w.heap.size + 1, 0, none⟩ (.int .i64 0)).setCell ⟨w.heap.size + 1 + 1, 0, none⟩ (.int .i64 0)).setCell ⟨w.heap.size + 1 + 1 + 1, 0, none⟩ (.int .i64 0)).setCell ⟨w.heap.size + 1 + 1 + 1 + 1, 0, none⟩ (.int .i64 70)).drew).putObj D (.deferred none)).cell? ⟨w.heap.size + 1 + 1 + 1, 0, none⟩ = some (.int .i64 0) := blk_cell ((World.putObj_heap_other (show w.heap.size + 1 + 1 + 1 ≠ D by omega)).trans (blk_drew ((Below.heap_setCell _ _ _ _ (show w.heap.size + 1 + 1 + 1 ≠ w.heap.size + 1 + 1 + 1 + 1 by omega)).trans (one_setCell ((Below.heap_setCell _ _ _ _ (show w.heap.size + 1 + 1 + 1 ≠ w.heap.size + 1 + 1 by omega)).trans ((Below.heap_setCell _ _ _ _ (show w.heap.size + 1 + 1 + 1 ≠ w.heap.size + 1 by omega)).trans HH.out.2.2.1)))))) 0
    have t4 : ((((((W.setCell ⟨w.heap.size + 1, 0, none⟩ (.int .i64 0)).setCell ⟨w.heap.size + 1 + 1, 0, none⟩ (.int .i64 0)).setCell ⟨w.heap.size + 1 + 1 + 1, 0, none⟩ (.int .i64 0)).setCell ⟨w.heap.size + 1 + 1 + 1 + 1, 0, none⟩ (.int .i64 70)).drew).putObj D (.deferred none)).cell? ⟨w.heap.size + 1 + 1 + 1 + 1, 0, none⟩ = some (.int .i64 70) := blk_cell ((World.putObj_heap_other (show w.heap.size + 1 + 1 + 1 + 1 ≠ D by omega)).trans (blk_drew (one_setCell ((Below.heap_setCell _ _ _ _ (show w.heap.size + 1 + 1 + 1 + 1 ≠ w.heap.size + 1 + 1 + 1 by omega)).trans ((Below.heap_setCell _ _ _ _ (show w.heap.size + 1 + 1 + 1 + 1 ≠ w.heap.size + 1 + 1 by omega)).trans ((Below.heap_setCell _ _ _ _ (show w.heap.size + 1 + 1 + 1 + 1 ≠ w.heap.size + 1 by omega)).trans HH.out.2.2.2)))))) 0
    refine ⟨by simp, .inl ⟨_, _, rfl, run_takeDeferred hD2, ?_⟩⟩
    exact ⟨.tuple #[.int .i64 0, .int .i64 0, .int .i64 0, .int .i64 70], by simp [results, Try.results15, go_sem, t1, t2, t3, t4], (((((hB.setCell (p := ⟨w.heap.size + 1, 0, none⟩) (show w.heap.size ≤ w.heap.size + 1 by omega) _).setCell (p := ⟨w.heap.size + 1 + 1, 0, none⟩) (show w.heap.size ≤ w.heap.size + 1 + 1 by omega) _).setCell (p := ⟨w.heap.size + 1 + 1 + 1, 0, none⟩) (show w.heap.size ≤ w.heap.size + 1 + 1 + 1 by omega) _).setCell (p := ⟨w.heap.size + 1 + 1 + 1 + 1, 0, none⟩) (show w.heap.size ≤ w.heap.size + 1 + 1 + 1 + 1 by omega) _).drew).trans (belowK_b (w := w) (Nat.le_refl _) _ D _ _ (by omega) hD2 rfl rfl), _, _, _, _, HTT.out, rfl⟩
  case stop =>
    rintro D cc pre W hD ⟨k, hk, hf⟩ ⟨⟨rfl, pre', y, B, bt, o, rfl, hA, hF, h1, h2, h3, h4⟩, hB⟩ hDf
    have HT : PlaceIs l tick B bt o 0 := .inl ⟨y.1, hlen ▸ y.2, fun j hj => by obtain ⟨z, hz, rfl⟩ := firstK_mem (firstK_snoc hf).1 hj; exact hA z hz, hF, rfl⟩
    have b1 := blk_cell h1 0; have b2 := blk_cell h2 0; have b3 := blk_cell h3 0; have b4 := blk_cell h4 0; have g1 := blk_free h1 0; have g2 := blk_free h2 0; have g3 := blk_free h3 0; have g4 := blk_free h4 0
    simp at b1 b2 b3 b4 g1 g2 g3 g4
    rename_i K hK
    have HH := Lib.hid (show _ ∧ _ ∧ _ ∧ _ from ⟨h1, h2, h3, h4⟩); have HTT := Lib.hid HT
    clear h1 h2 h3 h4 hA hF HT hf hch hM hM0
    gi_wp2_with fail
    rename_i K2 hK2
    refine wpIn_wide.2 ?_
    go_region
    refine hK2 _ _ (wpIn_wide.2 ?_)
    go_wp2_with fail
    have hD2 : ((((W.setCell ⟨w.heap.size + 1, 0, none⟩ (.int .i64 B)).setCell ⟨w.heap.size + 1 + 1, 0, none⟩ (.int .i64 bt)).setCell ⟨w.heap.size + 1 + 1 + 1, 0, none⟩ (.int .i64 o)).setCell ⟨w.heap.size + 1 + 1 + 1 + 1, 0, none⟩ (.int .i64 0)).drew.heap[D]? = some (.deferred (some [])) := blk_drew ((Below.heap_setCell _ _ _ _ (show D ≠ w.heap.size + 1 + 1 + 1 + 1 by omega)).trans ((Below.heap_setCell _ _ _ _ (show D ≠ w.heap.size + 1 + 1 + 1 by omega)).trans ((Below.heap_setCell _ _ _ _ (show D ≠ w.heap.size + 1 + 1 by omega)).trans ((Below.heap_setCell _ _ _ _ (show D ≠ w.heap.size + 1 by omega)).trans (hDf)))))
    have t1 : ((((((W.setCell ⟨w.heap.size + 1, 0, none⟩ (.int .i64 B)).setCell ⟨w.heap.size + 1 + 1, 0, none⟩ (.int .i64 bt)).setCell ⟨w.heap.size + 1 + 1 + 1, 0, none⟩ (.int .i64 o)).setCell ⟨w.heap.size + 1 + 1 + 1 + 1, 0, none⟩ (.int .i64 0)).drew).putObj D (.deferred none)).cell? ⟨w.heap.size + 1, 0, none⟩ = some (.int .i64 B) := blk_cell ((World.putObj_heap_other (show w.heap.size + 1 ≠ D by omega)).trans (blk_drew ((Below.heap_setCell _ _ _ _ (show w.heap.size + 1 ≠ w.heap.size + 1 + 1 + 1 + 1 by omega)).trans ((Below.heap_setCell _ _ _ _ (show w.heap.size + 1 ≠ w.heap.size + 1 + 1 + 1 by omega)).trans ((Below.heap_setCell _ _ _ _ (show w.heap.size + 1 ≠ w.heap.size + 1 + 1 by omega)).trans (one_setCell HH.out.1)))))) 0
    have t2 : ((((((W.setCell ⟨w.heap.size + 1, 0, none⟩ (.int .i64 B)).setCell ⟨w.heap.size + 1 + 1, 0, none⟩ (.int .i64 bt)).setCell ⟨w.heap.size + 1 + 1 + 1, 0, none⟩ (.int .i64 o)).setCell ⟨w.heap.size + 1 + 1 + 1 + 1, 0, none⟩ (.int .i64 0)).drew).putObj D (.deferred none)).cell? ⟨w.heap.size + 1 + 1, 0, none⟩ = some (.int .i64 bt) := blk_cell ((World.putObj_heap_other (show w.heap.size + 1 + 1 ≠ D by omega)).trans (blk_drew ((Below.heap_setCell _ _ _ _ (show w.heap.size + 1 + 1 ≠ w.heap.size + 1 + 1 + 1 + 1 by omega)).trans ((Below.heap_setCell _ _ _ _ (show w.heap.size + 1 + 1 ≠ w.heap.size + 1 + 1 + 1 by omega)).trans (one_setCell ((Below.heap_setCell _ _ _ _ (show w.heap.size + 1 + 1 ≠ w.heap.size + 1 by omega)).trans HH.out.2.1)))))) 0
    have t3 : ((((((W.setCell ⟨w.heap.size + 1, 0, none⟩ (.int .i64 B)).setCell ⟨w.heap.size + 1 + 1, 0, none⟩ (.int .i64 bt)).setCell ⟨w.heap.size + 1 + 1 + 1, 0, none⟩ (.int .i64 o)).setCell ⟨w.heap.size + 1 + 1 + 1 + 1, 0, none⟩ (.int .i64 0)).drew).putObj D (.deferred none)).cell? ⟨w.heap.size + 1 + 1 + 1, 0, none⟩ = some (.int .i64 o) := blk_cell ((World.putObj_heap_other (show w.heap.size + 1 + 1 + 1 ≠ D by omega)).trans (blk_drew ((Below.heap_setCell _ _ _ _ (show w.heap.size + 1 + 1 + 1 ≠ w.heap.size + 1 + 1 + 1 + 1 by omega)).trans (one_setCell ((Below.heap_setCell _ _ _ _ (show w.heap.size + 1 + 1 + 1 ≠ w.heap.size + 1 + 1 by omega)).trans ((Below.heap_setCell _ _ _ _ (show w.heap.size + 1 + 1 + 1 ≠ w.heap.size + 1 by omega)).trans HH.out.2.2.1)))))) 0
    have t4 : ((((((W.setCell ⟨w.heap.size + 1, 0, none⟩ (.int .i64 B)).setCell ⟨w.heap.size + 1 + 1, 0, none⟩ (.int .i64 bt)).setCell ⟨w.heap.size + 1 + 1 + 1, 0, none⟩ (.int .i64 o)).setCell ⟨w.heap.size + 1 + 1 + 1 + 1, 0, none⟩ (.int .i64 0)).drew).putObj D (.deferred none)).cell? ⟨w.heap.size + 1 + 1 + 1 + 1, 0, none⟩ = some (.int .i64 0) := blk_cell ((World.putObj_heap_other (show w.heap.size + 1 + 1 + 1 + 1 ≠ D by omega)).trans (blk_drew (one_setCell ((Below.heap_setCell _ _ _ _ (show w.heap.size + 1 + 1 + 1 + 1 ≠ w.heap.size + 1 + 1 + 1 by omega)).trans ((Below.heap_setCell _ _ _ _ (show w.heap.size + 1 + 1 + 1 + 1 ≠ w.heap.size + 1 + 1 by omega)).trans ((Below.heap_setCell _ _ _ _ (show w.heap.size + 1 + 1 + 1 + 1 ≠ w.heap.size + 1 by omega)).trans HH.out.2.2.2)))))) 0
    refine ⟨by simp, .inl ⟨_, _, rfl, run_takeDeferred hD2, ?_⟩⟩
    exact ⟨.tuple #[.int .i64 B, .int .i64 bt, .int .i64 o, .int .i64 0], by simp [results, Try.results15, go_sem, t1, t2, t3, t4], (((((hB.setCell (p := ⟨w.heap.size + 1, 0, none⟩) (show w.heap.size ≤ w.heap.size + 1 by omega) _).setCell (p := ⟨w.heap.size + 1 + 1, 0, none⟩) (show w.heap.size ≤ w.heap.size + 1 + 1 by omega) _).setCell (p := ⟨w.heap.size + 1 + 1 + 1, 0, none⟩) (show w.heap.size ≤ w.heap.size + 1 + 1 + 1 by omega) _).setCell (p := ⟨w.heap.size + 1 + 1 + 1 + 1, 0, none⟩) (show w.heap.size ≤ w.heap.size + 1 + 1 + 1 + 1 by omega) _).drew).trans (belowK_b (w := w) (Nat.le_refl _) _ D _ _ (by omega) hD2 rfl rfl), _, _, _, _, HTT.out, rfl⟩
set_option maxRecDepth 100000 in
set_option maxHeartbeats 4000000 in
theorem place_no (a : Option Addr) (b off len cap : Nat) (l : List Mt) (tick : Int) (w : World) (r : Int) (hch : (¬ Changes l ∧ r = 100) ∨ (Changes l ∧ ¬ (0 ≤ tick ∧ tick ≤ 16777216) ∧ r = 1)) (hM : Ms w a len b off l) (hn : len ≤ 9223372036854775807) :
    CallsIn Fence.wide 5 Try.prog 15 #[.slice a len cap, .int .i64 tick] w fun e w' => Below w.heap.size w w' ∧ e = .returned (.tuple #[.int .i64 0, .int .i64 0, .int .i64 0, .int .i64 r]) := by
  have hro : Fence.wide.round = none := rfl
  refine callsIn_of_wp_marks Try.func15 rfl trivial ?_ hro
  simp only [Try.ntmps15, List.size_toArray, List.length_cons, List.length_nil, Nat.reduceAdd, Nat.reduceSub, Array.replicate_succ, Array.replicate_zero, List.push_toArray, List.append_toArray, List.nil_append, List.cons_append]
  obtain ⟨w0, hw0⟩ : ∃ w0, w0 = ((((w.alloc (.cells #[.int .i64 tick] 3)).alloc (.cells #[.int .i64 0] 3)).alloc (.cells #[.int .i64 0] 3)).alloc (.cells #[.int .i64 0] 3)).alloc (.cells #[.int .i64 0] 24) := ⟨_, rfl⟩
  have hB0 : Below w.heap.size w w0 := by rw [hw0]; go_grown
  have hM0 := hM.grown hB0
  gi_wp2
  refine wpIn_scope_wide ?_
  gi_wp2_with fail
  refine ⟨trivial, ?_⟩
  have z0 : w0.heap.size = w.heap.size + 5 := by rw [hw0]; simp
  have k0 : w0.heap[w.heap.size]? = some (.cells #[.int .i64 tick] 3 (0, 0)) := by rw [hw0]; have := blk_new w (.cells #[.int .i64 tick] 3); exact blk_alloc (blk_alloc (blk_alloc (blk_alloc (this) _) _) _) _
  have k1 : w0.heap[w.heap.size + 1]? = some (.cells #[.int .i64 0] 3 (0, 0)) := by rw [hw0]; have := blk_new (w.alloc (.cells #[.int .i64 tick] 3)) (.cells #[.int .i64 0] 3); rw [World.size_alloc] at this; exact blk_alloc (blk_alloc (blk_alloc (this) _) _) _
  have k2 : w0.heap[w.heap.size + 1 + 1]? = some (.cells #[.int .i64 0] 3 (0, 0)) := by rw [hw0]; have := blk_new ((w.alloc (.cells #[.int .i64 tick] 3)).alloc (.cells #[.int .i64 0] 3)) (.cells #[.int .i64 0] 3); rw [World.size_alloc, World.size_alloc] at this; exact blk_alloc (blk_alloc (this) _) _
  have k3 : w0.heap[w.heap.size + 1 + 1 + 1]? = some (.cells #[.int .i64 0] 3 (0, 0)) := by rw [hw0]; have := blk_new (((w.alloc (.cells #[.int .i64 tick] 3)).alloc (.cells #[.int .i64 0] 3)).alloc (.cells #[.int .i64 0] 3)) (.cells #[.int .i64 0] 3); rw [World.size_alloc, World.size_alloc, World.size_alloc] at this; exact blk_alloc (this) _
  have k4 : w0.heap[w.heap.size + 1 + 1 + 1 + 1]? = some (.cells #[.int .i64 0] 24 (0, 0)) := by rw [hw0]; have := blk_new ((((w.alloc (.cells #[.int .i64 tick] 3)).alloc (.cells #[.int .i64 0] 3)).alloc (.cells #[.int .i64 0] 3)).alloc (.cells #[.int .i64 0] 3)) (.cells #[.int .i64 0] 24); rw [World.size_alloc, World.size_alloc, World.size_alloc, World.size_alloc] at this; exact this
  rw [← hw0]
  refine (callsIn_wide.2 (mcheck_any _ _ _ b off l _ hM0 hn)).mono ?_
  rintro e w1 ⟨rfl, hb1⟩
  replace k0 := blk_below k0 hb1 (by omega)
  replace k1 := blk_below k1 hb1 (by omega)
  replace k2 := blk_below k2 hb1 (by omega)
  replace k3 := blk_below k3 hb1 (by omega)
  replace k4 := blk_below k4 hb1 (by omega)
  have z1 := hb1.size
  have B1 := below_after hB0 hb1 (by omega)
  have c0 := blk_cell k0 0
  have c1 := blk_cell k1 0; have f1 := blk_free k1 0
  have c2 := blk_cell k2 0; have f2 := blk_free k2 0
  have c3 := blk_cell k3 0; have f3 := blk_free k3 0
  have c4 := blk_cell k4 0; have f4 := blk_free k4 0
  simp at c0 c1 c2 c3 c4 f1 f2 f3 f4
  have K0 := Lib.hid k0; have K1 := Lib.hid k1; have K2 := Lib.hid k2; have K3 := Lib.hid k3; have K4 := Lib.hid k4
  clear k0 k1 k2 k3 k4 hb1 hw0
  rcases hch with ⟨hch, rfl⟩ | ⟨hch, hne, rfl⟩
  · rw [chk_no hch]
    gi_wp2
    have t1 : (((((w1.setCell ⟨w.heap.size + 1, 0, none⟩ (.int .i64 0)).setCell ⟨w.heap.size + 1 + 1, 0, none⟩ (.int .i64 0)).setCell ⟨w.heap.size + 1 + 1 + 1, 0, none⟩ (.int .i64 0)).setCell ⟨w.heap.size + 1 + 1 + 1 + 1, 0, none⟩ (.int .i64 100))).cell? ⟨w.heap.size + 1, 0, none⟩ = some (.int .i64 0) := blk_cell ((Below.heap_setCell _ _ _ _ (show w.heap.size + 1 ≠ w.heap.size + 1 + 1 + 1 + 1 by omega)).trans ((Below.heap_setCell _ _ _ _ (show w.heap.size + 1 ≠ w.heap.size + 1 + 1 + 1 by omega)).trans ((Below.heap_setCell _ _ _ _ (show w.heap.size + 1 ≠ w.heap.size + 1 + 1 by omega)).trans (one_setCell K1.out)))) 0
    have t2 : (((((w1.setCell ⟨w.heap.size + 1, 0, none⟩ (.int .i64 0)).setCell ⟨w.heap.size + 1 + 1, 0, none⟩ (.int .i64 0)).setCell ⟨w.heap.size + 1 + 1 + 1, 0, none⟩ (.int .i64 0)).setCell ⟨w.heap.size + 1 + 1 + 1 + 1, 0, none⟩ (.int .i64 100))).cell? ⟨w.heap.size + 1 + 1, 0, none⟩ = some (.int .i64 0) := blk_cell ((Below.heap_setCell _ _ _ _ (show w.heap.size + 1 + 1 ≠ w.heap.size + 1 + 1 + 1 + 1 by omega)).trans ((Below.heap_setCell _ _ _ _ (show w.heap.size + 1 + 1 ≠ w.heap.size + 1 + 1 + 1 by omega)).trans (one_setCell ((Below.heap_setCell _ _ _ _ (show w.heap.size + 1 + 1 ≠ w.heap.size + 1 by omega)).trans K2.out)))) 0
    have t3 : (((((w1.setCell ⟨w.heap.size + 1, 0, none⟩ (.int .i64 0)).setCell ⟨w.heap.size + 1 + 1, 0, none⟩ (.int .i64 0)).setCell ⟨w.heap.size + 1 + 1 + 1, 0, none⟩ (.int .i64 0)).setCell ⟨w.heap.size + 1 + 1 + 1 + 1, 0, none⟩ (.int .i64 100))).cell? ⟨w.heap.size + 1 + 1 + 1, 0, none⟩ = some (.int .i64 0) := blk_cell ((Below.heap_setCell _ _ _ _ (show w.heap.size + 1 + 1 + 1 ≠ w.heap.size + 1 + 1 + 1 + 1 by omega)).trans (one_setCell ((Below.heap_setCell _ _ _ _ (show w.heap.size + 1 + 1 + 1 ≠ w.heap.size + 1 + 1 by omega)).trans ((Below.heap_setCell _ _ _ _ (show w.heap.size + 1 + 1 + 1 ≠ w.heap.size + 1 by omega)).trans K3.out)))) 0
    have t4 : (((((w1.setCell ⟨w.heap.size + 1, 0, none⟩ (.int .i64 0)).setCell ⟨w.heap.size + 1 + 1, 0, none⟩ (.int .i64 0)).setCell ⟨w.heap.size + 1 + 1 + 1, 0, none⟩ (.int .i64 0)).setCell ⟨w.heap.size + 1 + 1 + 1 + 1, 0, none⟩ (.int .i64 100))).cell? ⟨w.heap.size + 1 + 1 + 1 + 1, 0, none⟩ = some (.int .i64 100) := blk_cell (one_setCell ((Below.heap_setCell _ _ _ _ (show w.heap.size + 1 + 1 + 1 + 1 ≠ w.heap.size + 1 + 1 + 1 by omega)).trans ((Below.heap_setCell _ _ _ _ (show w.heap.size + 1 + 1 + 1 + 1 ≠ w.heap.size + 1 + 1 by omega)).trans ((Below.heap_setCell _ _ _ _ (show w.heap.size + 1 + 1 + 1 + 1 ≠ w.heap.size + 1 by omega)).trans K4.out)))) 0
    exact ⟨.tuple #[.int .i64 0, .int .i64 0, .int .i64 0, .int .i64 100], by simp [results, Try.results15, go_sem, t1, t2, t3, t4], ((((B1.setCell (p := ⟨w.heap.size + 1, 0, none⟩) (show w.heap.size ≤ w.heap.size + 1 by omega) _).setCell (p := ⟨w.heap.size + 1 + 1, 0, none⟩) (show w.heap.size ≤ w.heap.size + 1 + 1 by omega) _).setCell (p := ⟨w.heap.size + 1 + 1 + 1, 0, none⟩) (show w.heap.size ≤ w.heap.size + 1 + 1 + 1 by omega) _).setCell (p := ⟨w.heap.size + 1 + 1 + 1 + 1, 0, none⟩) (show w.heap.size ≤ w.heap.size + 1 + 1 + 1 + 1 by omega) _), rfl⟩
  · rw [chk_yes hch]
    gi_wp2_with fail
    refine ⟨trivial, ?_⟩
    refine (callsIn_wide.2 (within_any _ _ _ _)).mono ?_
    rintro e w' ⟨rfl, rfl⟩
    rw [within_f hne]
    gi_wp2
    have t1 : (((((w1.setCell ⟨w.heap.size + 1, 0, none⟩ (.int .i64 0)).setCell ⟨w.heap.size + 1 + 1, 0, none⟩ (.int .i64 0)).setCell ⟨w.heap.size + 1 + 1 + 1, 0, none⟩ (.int .i64 0)).setCell ⟨w.heap.size + 1 + 1 + 1 + 1, 0, none⟩ (.int .i64 1))).cell? ⟨w.heap.size + 1, 0, none⟩ = some (.int .i64 0) := blk_cell ((Below.heap_setCell _ _ _ _ (show w.heap.size + 1 ≠ w.heap.size + 1 + 1 + 1 + 1 by omega)).trans ((Below.heap_setCell _ _ _ _ (show w.heap.size + 1 ≠ w.heap.size + 1 + 1 + 1 by omega)).trans ((Below.heap_setCell _ _ _ _ (show w.heap.size + 1 ≠ w.heap.size + 1 + 1 by omega)).trans (one_setCell K1.out)))) 0
    have t2 : (((((w1.setCell ⟨w.heap.size + 1, 0, none⟩ (.int .i64 0)).setCell ⟨w.heap.size + 1 + 1, 0, none⟩ (.int .i64 0)).setCell ⟨w.heap.size + 1 + 1 + 1, 0, none⟩ (.int .i64 0)).setCell ⟨w.heap.size + 1 + 1 + 1 + 1, 0, none⟩ (.int .i64 1))).cell? ⟨w.heap.size + 1 + 1, 0, none⟩ = some (.int .i64 0) := blk_cell ((Below.heap_setCell _ _ _ _ (show w.heap.size + 1 + 1 ≠ w.heap.size + 1 + 1 + 1 + 1 by omega)).trans ((Below.heap_setCell _ _ _ _ (show w.heap.size + 1 + 1 ≠ w.heap.size + 1 + 1 + 1 by omega)).trans (one_setCell ((Below.heap_setCell _ _ _ _ (show w.heap.size + 1 + 1 ≠ w.heap.size + 1 by omega)).trans K2.out)))) 0
    have t3 : (((((w1.setCell ⟨w.heap.size + 1, 0, none⟩ (.int .i64 0)).setCell ⟨w.heap.size + 1 + 1, 0, none⟩ (.int .i64 0)).setCell ⟨w.heap.size + 1 + 1 + 1, 0, none⟩ (.int .i64 0)).setCell ⟨w.heap.size + 1 + 1 + 1 + 1, 0, none⟩ (.int .i64 1))).cell? ⟨w.heap.size + 1 + 1 + 1, 0, none⟩ = some (.int .i64 0) := blk_cell ((Below.heap_setCell _ _ _ _ (show w.heap.size + 1 + 1 + 1 ≠ w.heap.size + 1 + 1 + 1 + 1 by omega)).trans (one_setCell ((Below.heap_setCell _ _ _ _ (show w.heap.size + 1 + 1 + 1 ≠ w.heap.size + 1 + 1 by omega)).trans ((Below.heap_setCell _ _ _ _ (show w.heap.size + 1 + 1 + 1 ≠ w.heap.size + 1 by omega)).trans K3.out)))) 0
    have t4 : (((((w1.setCell ⟨w.heap.size + 1, 0, none⟩ (.int .i64 0)).setCell ⟨w.heap.size + 1 + 1, 0, none⟩ (.int .i64 0)).setCell ⟨w.heap.size + 1 + 1 + 1, 0, none⟩ (.int .i64 0)).setCell ⟨w.heap.size + 1 + 1 + 1 + 1, 0, none⟩ (.int .i64 1))).cell? ⟨w.heap.size + 1 + 1 + 1 + 1, 0, none⟩ = some (.int .i64 1) := blk_cell (one_setCell ((Below.heap_setCell _ _ _ _ (show w.heap.size + 1 + 1 + 1 + 1 ≠ w.heap.size + 1 + 1 + 1 by omega)).trans ((Below.heap_setCell _ _ _ _ (show w.heap.size + 1 + 1 + 1 + 1 ≠ w.heap.size + 1 + 1 by omega)).trans ((Below.heap_setCell _ _ _ _ (show w.heap.size + 1 + 1 + 1 + 1 ≠ w.heap.size + 1 by omega)).trans K4.out)))) 0
    exact ⟨.tuple #[.int .i64 0, .int .i64 0, .int .i64 0, .int .i64 1], by simp [results, Try.results15, go_sem, t1, t2, t3, t4], ((((B1.setCell (p := ⟨w.heap.size + 1, 0, none⟩) (show w.heap.size ≤ w.heap.size + 1 by omega) _).setCell (p := ⟨w.heap.size + 1 + 1, 0, none⟩) (show w.heap.size ≤ w.heap.size + 1 + 1 by omega) _).setCell (p := ⟨w.heap.size + 1 + 1 + 1, 0, none⟩) (show w.heap.size ≤ w.heap.size + 1 + 1 + 1 by omega) _).setCell (p := ⟨w.heap.size + 1 + 1 + 1 + 1, 0, none⟩) (show w.heap.size ≤ w.heap.size + 1 + 1 + 1 + 1 by omega) _), rfl⟩

/-- What Place answers. -/
def PlaceRes (l : List Mt) (tick B b o r : Int) : Prop :=
  (¬ Changes l ∧ B = 0 ∧ b = 0 ∧ o = 0 ∧ r = 100) ∨ (Changes l ∧ ¬ (0 ≤ tick ∧ tick ≤ 16777216) ∧ B = 0 ∧ b = 0 ∧ o = 0 ∧ r = 1) ∨ (Changes l ∧ (0 ≤ tick ∧ tick ≤ 16777216) ∧ PlaceIs l tick B b o r)

theorem place_any (a : Option Addr) (b off len cap : Nat) (l : List Mt) (tick : Int) (w : World) (hM : Ms w a len b off l) (hn : len ≤ 9223372036854775807) (hb : 0 < len → ∃ c tb fr, w.heap[b]? = some (.cells c tb fr)) :
    Calls Try.prog 15 #[.slice a len cap, .int .i64 tick] w fun e w' => Below w.heap.size w w' ∧ ∃ B bt o r, PlaceRes l tick B bt o r ∧ e = .returned (.tuple #[.int .i64 B, .int .i64 bt, .int .i64 o, .int .i64 r]) := by
  by_cases hch : Changes l
  · by_cases ht : 0 ≤ tick ∧ tick ≤ 16777216
    · have hl : 0 < len := by have := hch.1; rw [hM.1] at this; omega
      obtain ⟨c, tb, fr, hb⟩ := hb hl
      obtain ⟨rfl, _⟩ := hM.2.1 hl
      refine (callsIn_wide.1 (place_in b off len cap l tick w hch hM.1 c tb fr hb hM ht)).mono ?_
      rintro e w' ⟨hB, B, bt, o, r, hT, rfl⟩
      exact ⟨hB, _, _, _, _, .inr (.inr ⟨hch, ht, hT⟩), rfl⟩
    · refine (callsIn_wide.1 (place_no a b off len cap l tick w 1 (.inr ⟨hch, ht, rfl⟩) hM hn)).mono ?_
      rintro e w' ⟨hB, rfl⟩
      exact ⟨hB, _, _, _, _, .inr (.inl ⟨hch, ht, rfl, rfl, rfl, rfl⟩), rfl⟩
  · refine (callsIn_wide.1 (place_no a b off len cap l tick w 100 (.inl ⟨hch, rfl⟩) hM hn)).mono ?_
    rintro e w' ⟨hB, rfl⟩
    exact ⟨hB, _, _, _, _, .inl ⟨hch, rfl, rfl, rfl, rfl⟩, rfl⟩
end Go.Proofs.Ytkgimglkiniofaa
