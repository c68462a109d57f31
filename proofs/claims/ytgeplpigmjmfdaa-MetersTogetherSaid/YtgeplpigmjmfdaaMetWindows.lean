/- The contract of Windows (layer 52). -/
import Derived.Test.YtgeplpigmjmfdaaMetIter
import Derived.Test.YtgeplpigmjmfdaaMetHolder
import Derived.Test.YtgeplpigmjmfdaaRound
import Derived.StillTailTactics
namespace Go.Proofs.Ytgeplpigmjmfdaa
open Go.RowKit Go.Shelf

attribute [local go_sem] Oper.semAt_some

theorem info_u64 : (Try.prog.info? 41).map (fun i => (i.zero, i.size, i.bytes)) = some (some (.int .u64 0), 1, 8) := by kernel_rfl
theorem square_same (x : Int) (w : World) :
    Calls Try.prog 19 #[.int .i64 x] w fun e w' => e = .returned (.int .i64 (sq x)) ∧ w' = w :=
  (square_any x w).mono fun _ _ h => ⟨h.1, h.2.symm⟩

/-- The sums up to each element, as far as k. -/
def sumsL (l : List Int) (k n : Nat) : List Value := (List.range (n + 1)).map fun j => .int .u64 (if j ≤ k then enV l j else 0)

theorem sumsL_at {l : List Int} {k n : Nat} (h : k ≤ n) : (sumsL l k n)[k]? = some (.int .u64 (enV l k)) := by
  unfold sumsL
  rw [List.getElem?_map, List.getElem?_range (by omega)]
  simp
theorem sumsL_at' {l : List Int} {k n : Nat} (h : k + 1 ≤ n) : (sumsL l k n)[k + 1]? = some (.int .u64 0) := by
  unfold sumsL
  rw [List.getElem?_map, List.getElem?_range (by omega)]
  simp
  omega
theorem sumsL_set {l : List Int} {k n : Nat} : (sumsL l k n).set (k + 1) (.int .u64 (enV l (k + 1))) = sumsL l (k + 1) n := by
  apply List.ext_getElem?
  intro i
  unfold sumsL
  by_cases hi : i < n + 1
  · by_cases e : i = k + 1
    · subst e
      rw [List.getElem?_set_self (by simpa using hi), List.getElem?_map, List.getElem?_range hi]
      simp
    · rw [List.getElem?_set_ne (Ne.symm e), List.getElem?_map, List.getElem?_map, List.getElem?_range hi]
      simp only [Option.map_some, Option.some.injEq, Value.int.injEq, true_and]
      by_cases h1 : i ≤ k
      · rw [if_pos h1, if_pos (by omega)]
      · rw [if_neg h1, if_neg (by omega)]
  · rw [List.getElem?_eq_none (by simp; omega), List.getElem?_eq_none (by simp; omega)]

/-- What Windows keeps in memory while it reckons the sums. -/
structure WinI (w wr : World) (s G n : Nat) (xs : List Value) : Prop where
  own : wr.ownsRow w.heap.size 41 1 (.slice (some ⟨w.heap.size + 1 + 1, 0, none⟩) (n + 1) (n + 1)) (n + 1) xs
  bel : Below w.heap.size w wr
  k4 : wr.heap[w.heap.size]? = some (.cells #[.int .i64 s] 3 (0, 0))
  k6 : wr.heap[w.heap.size + 1]? = some (.cells #[.slice none 0 0] 22 (0, 0))
  k8 : wr.heap[G]? = some (.cells #[.slice (some ⟨w.heap.size + 1 + 1, 0, none⟩) (n + 1) (n + 1)] 40 (0, 0))
  lo : w.heap.size + 3 ≤ G
  hi : G < wr.heap.size

structure WinS (w wr : World) (s n : Nat) (xs : List Value) : Prop where
  own : wr.ownsRow w.heap.size 41 1 (.slice (some ⟨w.heap.size + 1 + 1, 0, none⟩) (n + 1) (n + 1)) (n + 1) xs
  bel : Below w.heap.size w wr
  k4 : wr.heap[w.heap.size]? = some (.cells #[.int .i64 s] 3 (0, 0))
  k6 : wr.heap[w.heap.size + 1]? = some (.cells #[.slice none 0 0] 22 (0, 0))
  lo : w.heap.size + 3 ≤ wr.heap.size

theorem winStart {w w1 : World} {s n : Nat} {l : List Int} (hS : w1.ownsRow w.heap.size 41 1 (.slice (some ⟨((w.alloc (.cells #[.int .i64 s] 3)).alloc (.cells #[.slice none 0 0] 22)).heap.size, 0, none⟩) (n + 1) (n + 1)) (n + 1) (madeCells (Value.int .u64 0).cells ((n + 1) * 1)).toList)
    (hG : ((w.alloc (.cells #[.int .i64 s] 3)).alloc (.cells #[.slice none 0 0] 22)).grownBy w1 none) : WinS w w1 s n (sumsL l 0 n) := by
  have e : (madeCells (Value.int .u64 0).cells ((n + 1) * 1)).toList = sumsL l 0 n := by
    apply List.ext_getElem?
    intro i
    unfold sumsL
    by_cases hi : i < n + 1
    · rw [List.getElem?_map, List.getElem?_range hi]
      simp [madeCells, Value.cells, hi, Nat.mod_one]
      intro h; subst h; rfl
    · rw [List.getElem?_eq_none (by simp [madeCells]; omega), List.getElem?_eq_none (by simp; omega)]
  have hB : Below (w.heap.size + 2) ((w.alloc (.cells #[.int .i64 s] 3)).alloc (.cells #[.slice none 0 0] 22)) w1 := (Below.refl _ _).grown hG (by simp) (fun _ h => by cases h)
  rw [e] at hS
  simp only [World.size_alloc] at hS
  have hlt := (World.ownsRow.lt hS (w.heap.size + 1 + 1) rfl).2
  exact ⟨hS, ((Below.refl _ w).alloc (Nat.le_refl _) _ |>.alloc (by simp) _).trans (hB.mono (by omega)), blk_below (blk_alloc (blk_new _ _) _) hB (by omega),
    blk_below (by have := blk_new (w.alloc (.cells #[.int .i64 s] 3)) (.cells #[.slice none 0 0] 22); rwa [World.size_alloc] at this) hB (by omega), by omega⟩

theorem WinI.next {w wr : World} {s G n k : Nat} {xs : List Value} (h : WinI w wr s G n xs) {u : Value} {ys : List Value} (he : xs.set (k + 1) u = ys) : WinI w ((wr.setCell ⟨w.heap.size + 1 + 1, k + 1, none⟩ u).drew) s G n ys := by
  obtain ⟨h1, h2⟩ := World.ownsRow.stored h.own (k + 1) u
  have e4 : ∀ j, j ≠ w.heap.size + 1 + 1 → (wr.setCell ⟨w.heap.size + 1 + 1, k + 1, none⟩ u).heap[j]? = wr.heap[j]? := fun j hj => Below.heap_setCell _ _ _ _ hj
  rw [he] at h1
  exact ⟨h1, (h.bel.setCell (p := ⟨w.heap.size + 1 + 1, k + 1, none⟩) (show w.heap.size ≤ w.heap.size + 1 + 1 by omega) _).drew, blk_drew ((e4 _ (by omega)).trans h.k4), blk_drew ((e4 _ (by omega)).trans h.k6), blk_drew ((e4 _ (by have := h.lo; omega)).trans h.k8), h.lo, by have := h.hi; simpa using this⟩

theorem WinS.stored {w wr : World} {s n : Nat} {xs : List Value} (h : WinS w wr s n xs) : WinI w (wr.alloc (.cells #[.slice (some ⟨w.heap.size + 1 + 1, 0, none⟩) (n + 1) (n + 1)] 40)) s wr.heap.size n xs :=
  ⟨h.own.alloc _, h.bel.alloc (by have := h.lo; omega) _, blk_alloc h.k4 _, blk_alloc h.k6 _, blk_new _ _, h.lo, by simp⟩

theorem ownsRow_block {w : World} {base : Nat} {e : TypeId} {g n : Nat} {xs : List Value} (h : w.ownsRow base e 1 (.slice (some ⟨g, 0, none⟩) n n) n xs) : w.heap[g]? = some (.cells xs.toArray e (0, 0)) := by
  rcases h.2 with ⟨h', _⟩ | ⟨g', cap', cur, h', hb, hg, hnc, hcm, hcs, htake⟩
  · simp at h'
  · simp only [Value.slice.injEq, Option.some.injEq, Addr.mk.injEq, and_true, true_and] at h'
    obtain ⟨rfl, rfl⟩ := h'
    rw [List.take_of_length_le (by rw [Array.length_toList, hcs]; exact Nat.le_refl _)] at htake
    rw [hg, ← htake]

theorem Ints.grownNC {w w' : World} {B : Nat} {v : Value} {l : List Int} {row : Option Nat} (h : Ints w B v l) (hg : w.grownBy w' row) (hr : ∀ r, row = some r → ∃ o : Obj, w.heap[r]? = some o ∧ o.isCells = false) : Ints w' B v l := by
  refine ⟨h.1, ?_⟩
  rcases h.2 with h0 | ⟨g, cap, cur, h1, h2, h3, h4⟩
  · exact .inl h0
  · exact .inr ⟨g, cap, cur, h1, h2, blk_kept h3 hg hr, h4⟩
theorem Ints.isSlice {w : World} {B : Nat} {v : Value} {l : List Int} (h : Ints w B v l) : ∃ a n c, v = .slice a n c := by
  obtain ⟨a, _, c, hv, _⟩ := h.row
  exact ⟨a, _, c, hv⟩
theorem Ints.keeps {w w' : World} {B : Nat} {v : Value} {l : List Int} (h : Ints w B v l) (hg : w.grownBy w' v.ownBlock) : KeepsOthers w w' :=
  KeepsOthers.of_grownBy hg fun j o hj ho => by
    rcases h.2 with ⟨h0, _⟩ | ⟨g, cap, cur, h1, h2, h3, h4⟩
    · rw [h0] at hj; cases hj
    · rw [h1] at hj; cases hj
      rw [h3] at ho; cases ho; rfl

theorem sumsL_all {l : List Int} {k n : Nat} (h : k ≤ n) : (sumsL l n n)[k]? = some (.int .u64 (enV l k)) := by
  unfold sumsL
  rw [List.getElem?_map, List.getElem?_range (by omega)]
  simp [h]
theorem winV_diff (l : List Int) (p s : Nat) : winV l p s = enV l (p + s) - enV l p := by
  have H : ∀ k, k ≤ s → enV ((l.drop p).take s) k = enV l (p + k) - enV l p := by
    intro k
    induction k with
    | zero => intro _; simp [enV]
    | succ k ih =>
      intro hk
      have e : ((l.drop p).take s).getD k 0 = l.getD (p + k) 0 := by
        simp [List.getD_eq_getElem?_getD, List.getElem?_drop, show k < s by omega]
      rw [← Nat.add_assoc]
      simp only [enV]
      rw [ih (by omega), e]
      omega
  exact H s (Nat.le_refl _)
theorem win_map {n s h : Nat} {l : List Int} {ys : List (Ix (cnt n s h))} {c : Nat} (hy : firstK ys c) : (ys.map fun y => winV l (y.1 * h) s) = winL l s h c := by
  unfold winL
  rw [← show ys.map (·.1) = List.range c from hy, List.map_map]
  rfl

/-- What Windows keeps in memory in its second loop. -/
structure WinR (w W : World) (s G BB n : Nat) (l : List Int) (xs : List Int) : Prop where
  k4 : W.heap[w.heap.size]? = some (.cells #[.int .i64 s] 3 (0, 0))
  k8 : W.heap[G]? = some (.cells #[.slice (some ⟨w.heap.size + 1 + 1, 0, none⟩) (n + 1) (n + 1)] 40 (0, 0))
  row : W.heap[w.heap.size + 1 + 1]? = some (.cells (sumsL l n n).toArray 41 (0, 0))
  res : ∃ v, W.heap[w.heap.size + 1]? = some (.cells #[v] 22 (0, 0)) ∧ Ints W BB v xs
  bb : BB ≤ W.heap.size
theorem WinR.grown {w A B : World} {s G BB n : Nat} {l xs : List Int} {r : Option Nat} (h : WinR w A s G BB n l xs) (hg : A.grownBy B r) (hr : ∀ q, r = some q → ∃ o : Obj, A.heap[q]? = some o ∧ o.isCells = false) : WinR w B s G BB n l xs := by
  obtain ⟨h1, h2, h3, ⟨v, h4, h5⟩, h6⟩ := h
  exact ⟨blk_kept h1 hg hr, blk_kept h2 hg hr, blk_kept h3 hg hr, ⟨v, blk_kept h4 hg hr, h5.grownNC hg hr⟩, Nat.le_trans h6 hg.size⟩

theorem WinR.push {w W w2 : World} {s G BB n : Nat} {l xs : List Int} {v v' : Value} {y : Int} {o : Obj} (k4 : W.heap[w.heap.size]? = some (.cells #[.int .i64 s] 3 (0, 0))) (k8 : W.heap[G]? = some (.cells #[.slice (some ⟨w.heap.size + 1 + 1, 0, none⟩) (n + 1) (n + 1)] 40 (0, 0)))
    (row : W.heap[w.heap.size + 1 + 1]? = some (.cells (sumsL l n n).toArray 41 (0, 0))) (k6 : W.heap[w.heap.size + 1]? = some (.cells #[v] 22 (0, 0))) (bb : BB ≤ W.heap.size) (hO2 : Ints w2 BB v' (xs ++ [y])) (hB2 : Below BB (W.alloc o) w2) (hG : G < BB) (hG' : w.heap.size + 3 ≤ G) :
    WinR w (w2.setCell ⟨w.heap.size + 1, 0, none⟩ v') s G BB n l (xs ++ [y]) := by
  have hf : ∀ q ob, q < BB → q ≠ w.heap.size + 1 → W.heap[q]? = some ob → (w2.setCell ⟨w.heap.size + 1, 0, none⟩ v').heap[q]? = some ob := fun q ob hq hn h => (Below.heap_setCell _ _ _ _ hn).trans (blk_below (blk_alloc h o) hB2 hq)
  have hs := hB2.size
  simp only [World.size_alloc] at hs
  exact ⟨hf _ _ (by omega) (by omega) k4, hf _ _ (by omega) (by omega) k8, hf _ _ (by omega) (by omega) row, ⟨v', one_setCell (blk_below (blk_alloc k6 o) hB2 (by omega)), hO2.upd ((Upd.of_below (Below.refl _ _)).setCell v') (by omega)⟩, by rw [World.size_setCell]; omega⟩
theorem cell_far {W : World} {p q i : Nat} {u : Value} {x : Option Value} (h : q ≠ p) (hc : W.cell? ⟨q, i, none⟩ = x) : (W.setCell ⟨p, 0, none⟩ u).cell? ⟨q, i, none⟩ = x :=
  (World.cell?_of_block (a := ⟨q, i, none⟩) (Below.heap_setCell W ⟨p, 0, none⟩ u q h)).trans hc
theorem push_kp {own : Nat → Prop} {W w2 : World} {o : Obj} {BB q : Nat} {u : Value} (hB2 : Below BB (W.alloc o) w2) (ho : ∀ k, ¬ own k → k < BB ∧ k ≠ q) : KpEx own W (w2.setCell ⟨q, 0, none⟩ u) :=
  ⟨by have := hB2.size; simp only [World.size_alloc] at this; rw [World.size_setCell]; omega, fun k ob hk _ hn => (Below.heap_setCell _ _ _ _ (ho k hn).2).trans (blk_below (blk_alloc hk o) hB2 (ho k hn).1)⟩

structure WinF (w wr W0 : World) (s h G n : Nat) (l : List Int) : Prop where
  size : W0.heap.size = wr.heap.size + 3
  lo : w.heap.size + 3 ≤ G
  hi : G < wr.heap.size
  b1 : W0.heap[wr.heap.size + 1]? = some (.cells #[.int .i64 s] 3 (0, 0))
  b2 : W0.heap[wr.heap.size]? = some (.cells #[.int .i64 n] 3 (0, 0))
  b3 : W0.heap[wr.heap.size + 1 + 1]? = some (.cells #[.int .i64 h] 3 (0, 0))
  start : WinR w W0 s G W0.heap.size n l []
  bel : Below w.heap.size w W0
theorem WinI.rest {w wr W0 : World} {s h G n : Nat} {l : List Int} (H : WinI w wr s G n (sumsL l n n)) (hW : W0 = (((wr.alloc (.cells #[.int .i64 n] 3)).alloc (.cells #[.int .i64 s] 3)).alloc (.cells #[.int .i64 h] 3))) : WinF w wr W0 s h G n l := by
  have e1 := blk_new wr (.cells #[.int .i64 n] 3)
  have e2 := blk_new (wr.alloc (.cells #[.int .i64 n] 3)) (.cells #[.int .i64 s] 3)
  have e3 := blk_new ((wr.alloc (.cells #[.int .i64 n] 3)).alloc (.cells #[.int .i64 s] 3)) (.cells #[.int .i64 h] 3)
  simp only [World.size_alloc] at e2 e3
  have hs := H.bel.size
  subst hW
  exact ⟨by simp, H.lo, H.hi, blk_alloc e2 _, blk_alloc (blk_alloc e1 _) _, e3,
    ⟨blk_alloc (blk_alloc (blk_alloc H.k4 _) _) _, blk_alloc (blk_alloc (blk_alloc H.k8 _) _) _, blk_alloc (blk_alloc (blk_alloc (ownsRow_block H.own) _) _) _, ⟨_, blk_alloc (blk_alloc (blk_alloc H.k6 _) _) _, Ints.nil _ _⟩, Nat.le_refl _⟩,
    ((H.bel.alloc hs _).alloc (by simp; omega) _).alloc (by simp; omega) _⟩

set_option maxRecDepth 100000 in
set_option maxHeartbeats 4000000 in
theorem windows_ok_in (a : Option Addr) (b off n cap s h : Nat) (l : List Int) (w : World) (hR : Row w a b off n l) (hn : n ≤ 65536) (hs1 : 1 ≤ s) (hs2 : s ≤ 65536) (hh1 : 1 ≤ h) (hh2 : h ≤ 16777216) :
    CallsIn Fence.wide 5 Try.prog 11 #[.slice a n cap, .int .i64 s, .int .i64 h] w fun e w' => ∃ v, e = .returned (.tuple #[v, .int .i64 0]) ∧ Ints w' w.heap.size v (winL l s h (cnt n s h)) ∧ Below w.heap.size w w' := by
  have hro : Fence.wide.round = none := rfl
  obtain ⟨i0, hi, hz0, hz1, hz2⟩ := info_parts info_u64
  have HR := Lib.hid hR; clear hR
  refine callsIn_of_wp_marks Try.func11 rfl trivial ?_ hro
  simp only [Try.ntmps11, List.size_toArray, List.length_cons, List.length_nil, Nat.reduceAdd, Nat.reduceSub, Array.replicate_succ, Array.replicate_zero, List.push_toArray, List.append_toArray, List.nil_append, List.cons_append]
  refine wpIn_wide.2 ?_
  have v1 := within_t (v := (s : Int)) (lo := 1) (hi := 65536) ⟨by omega, by omega⟩
  have v2 := within_t (v := (h : Int)) (lo := 1) (hi := 16777216) ⟨by omega, by omega⟩
  go_wp2_with (first | (go_at_call 21; refine (within_any _ _ _ _).mono ?_; rintro e w' ⟨rfl, rfl⟩) | (at_make; refine wpList_make_full _ rfl _ _ 40 rfl w.heap.size 41 i0 (.int .u64 0) 1 Try.underlying40 hi hz0 hz1 _ _ _ _ (n + 1) rfl rfl (by simp) (by simp) (by rw [hz2]; omega) (by unfold maxLen; omega) (by simp; omega) ?_; intro w1 hS hG; have HG := Lib.hid (winStart (l := l) hS hG); clear hS hG))
  have H1 := HG.out.stored
  clear HG
  have HI := Lib.hid H1; clear H1
  go_loopw [26] (fun i wr => ∃ k : Nat, k ≤ n ∧ i = .int .i64 k ∧ WinI w wr s w1.heap.size n (sumsL l k n)) (fun i _ => n - (intOf i).toNat)
  case atStart => exact ⟨0, Nat.zero_le _, rfl, HI.out⟩
  case round =>
    obtain ⟨k, hk, rfl, hI⟩ := hrel
    by_cases hlt : k < n
    · obtain rfl := HR.out.adr (by omega)
      have hcell := (HR.out.below hI.bel (Nat.le_refl _)).cel k hlt
      have c8 := blk_cell hI.k8 0
      have d1 : wr.cell? ⟨w.heap.size + 1 + 1, k, none⟩ = some (.int .u64 (enV l k)) := (World.ownsRow.cellAt hI.own k (by omega)).trans (sumsL_at (by omega))
      have d2 := World.ownsRow.cellAt hI.own (k + 1) (by omega)
      rw [sumsL_at' (by omega)] at d2
      have d3 := World.ownsRow.frozenAt hI.own (k + 1)
      simp at c8
      have sb := sq_bd (l.getD k 0)
      have pb := enV_bd l k
      have hE : enV l (k + 1) = enV l k + sq (l.getD k 0) := rfl
      generalize hx : l.getD k 0 = x at *
      have HX := Lib.hid hx; have HE := Lib.hid hE; clear hx hE
      have HI := Lib.hid hI; clear hI
      have q1 : (k : Int) < (n : Int) + 1 := by omega
      have q2 : (k : Int) + 1 < (n : Int) + 1 := by omega
      have q3 : IntKind.i64.wrap ((k : Int) + 1) = (k : Int) + 1 := by rw [IntKind.wrap_i64]; omega
      have q4 : IntKind.u64.wrap (sq x) = sq x := by rw [IntKind.wrap_u64]; omega
      have q5 : IntKind.u64.wrap (enV l k + sq x) = enV l k + sq x := by rw [IntKind.wrap_u64]; omega
      go_wp2_with fail
      go_still_tail 11, (by kernel_rfl)
      repeat still_step
      still_call (square_same _ _)
      repeat still_step
      refine wpStill_nil ?_
      go_wp2
      go_roundw
      case rel => exact ⟨k + 1, by omega, by go_num, by rw [← HE.out]; exact HI.out.next sumsL_set⟩
      case measure => simp [intOf]; omega
    · obtain rfl : k = n := by omega
      have c4 := blk_cell hI.k4 0
      simp at c4
      have HJ := Lib.hid hI; clear hI HI
      go_wp2_with (first | (go_at_call 22; refine (callsIn_wide.1 (windows_in Fence.wide 5 trivial rfl _ _ _ _)).mono ?_; rintro e W0 ⟨rfl, hW0⟩))
      obtain ⟨W0, hW0⟩ : ∃ W0, W0 = (((wr.alloc (.cells #[.int .i64 k] 3)).alloc (.cells #[.int .i64 s] 3)).alloc (.cells #[.int .i64 h] 3)) := ⟨_, rfl⟩
      have HF := Lib.hid (HJ.out.rest hW0)
      rw [← hW0]
      clear hW0 HJ c4
      have F0 := HF.out.size
      have F1 := HF.out.lo
      have F2 := HF.out.hi
      refine wpIn_wide.1 (?_ : Code.wpIn Fence.wide 5 _ _ _ _ _)
      refine wpIn_rangeFunc_ownH rfl (by omega) (gf := 30) (lb := #[.pointer (some ⟨wr.heap.size + 1, 0, none⟩), .pointer (some ⟨wr.heap.size, 0, none⟩), .pointer (some ⟨wr.heap.size + 1 + 1, 0, none⟩)]) rfl trivial (enters_of Try.func30 (by kernel_rfl) rfl)
        (windows_stops Fence.wide _ trivial rfl (by omega) (wr.heap.size + 1) wr.heap.size (wr.heap.size + 1 + 1) k s h hn hs2 hh1 hh2 W0 (fun j => ¬ (j = wr.heap.size ∨ j = wr.heap.size + 1 ∨ j = wr.heap.size + 1 + 1)) (fun g => g (by omega)) (fun g => g (by omega)) (fun g => g (by omega)) HF.out.b1 HF.out.b2 HF.out.b3)
        kpEx_t kpEx_b (Below.refl _ _) (fun _ => rfl)
        (fun pre W => WinR w W s w1.heap.size W0.heap.size k l (pre.map fun y => winV l (y.1 * h) s) ∧ Below w.heap.size w W)
        (fun c pre W => False ∧ Below w.heap.size w W)
        (OwnFrom.and (Own.from (fun s A B row hs hg hr => hs.grown hg hr) _) (ownFrom_below (Nat.le_refl _) (by omega)))
        (fun c => OwnFrom.and (Own.from (fun s A B row hs hg hr => hs.elim) _) (ownFrom_below (Nat.le_refl _) (by omega)))
        ⟨HF.out.start, HF.out.bel⟩
        (fun x a' W => a' = { tmps := #[.slice a k cap, .int .i64 s, .int .i64 h, undef, .pointer (some ⟨w.heap.size, 0, none⟩), undef, .pointer (some ⟨w.heap.size + 1, 0, none⟩), .int .i64 0, .pointer (some ⟨w1.heap.size, 0, none⟩), u9, u10, .int .i64 ((x.1 * h : Nat) : Int), .int .i64 s, .bool true, .bool false, .bool false, .int .i64 h, .bool true, .bool false, .bool false, .slice a k cap, .int .i64 k, .int .i64 ((k : Int) + 1), .slice (some ⟨w.heap.size + 1 + 1, 0, none⟩) (k + 1) (k + 1), .slice a k cap, .int .i64 k, .int .i64 k, .bool false, u28, u29, u30, u31, u32, u33, u34, u35, u36, u37, u38, u39, u40, u41, u42, u43, .slice a k cap, .int .i64 k, .int .i64 s, .int .i64 h, .func (.func 30) #[] #[.pointer (some ⟨wr.heap.size + 1, 0, none⟩), .pointer (some ⟨wr.heap.size, 0, none⟩), .pointer (some ⟨wr.heap.size + 1 + 1, 0, none⟩)], .int .i64 ((x.1 * h : Nat) : Int), undef, undef, undef, undef, undef, undef, undef, undef, undef, undef, undef, undef, undef, undef, undef, undef], defers := [] })
        (fun x a' => Own.from (fun s A B row hs hg hr => hs) _) ?assign ?body ?done ?stop
      case assign =>
        rintro lp pre x W K ⟨hI, hB⟩ hK
        simp only [encW]
        gi_wp2
        refine hK _ _ (KeepsFrom.refl _ _) (KpEx.refl _ _) ⟨hI, hB⟩ ?_
        rfl
      case body =>
        rintro lp pre x a' W _ _ ⟨hI, hB⟩ rfl hpl
        obtain ⟨i4, i8, irow, ⟨v, i6, iO⟩, ibb⟩ := hI
        have hp := (cnt_lt hh1).1 x.2
        have cl := cnt_le (n := k) (s := s) (h := h)
        obtain ⟨p, hpx⟩ : ∃ p, p = x.1 * h := ⟨_, rfl⟩
        rw [← hpx] at hp ⊢
        have HPX := Lib.hid hpx; clear hpx
        have c4 := blk_cell i4 0; have c8 := blk_cell i8 0; have c6 := blk_cell i6 0; have f6 := blk_free i6 0
        have r0 : W.cell? ⟨w.heap.size + 1 + 1, p, none⟩ = some (.int .u64 (enV l p)) := (blk_cell irow p).trans (by simpa using sumsL_all (l := l) (n := k) (k := p) (by omega))
        have r1 : W.cell? ⟨w.heap.size + 1 + 1, p + s, none⟩ = some (.int .u64 (enV l (p + s))) := (blk_cell irow (p + s)).trans (by simpa using sumsL_all (l := l) (n := k) (k := p + s) (by omega))
        simp at c4 c8 c6 f6
        have hd := winV_diff l p s
        have b0 := enV_bd l p; have b1 := enV_bd l (p + s); have b2 := enV_bd ((l.drop p).take s) s
        rw [show enV ((l.drop p).take s) s = winV l p s from rfl] at b2
        have q1 : (p : Int) < (k : Int) + 1 := by omega
        have q2 : (p : Int) + (s : Int) < (k : Int) + 1 := by omega
        have q3 : IntKind.i64.wrap ((p : Int) + (s : Int)) = (p : Int) + (s : Int) := by rw [IntKind.wrap_i64]; omega
        have q4 : IntKind.u64.wrap (enV l (p + s) - enV l p) = winV l p s := by rw [IntKind.wrap_u64]; omega
        have q5 : IntKind.i64.wrap (winV l p s) = winV l p s := by rw [IntKind.wrap_i64]; omega
        have HI := Lib.hid (show _ ∧ _ ∧ _ ∧ _ ∧ _ from ⟨i4, i8, irow, i6, iO⟩)
        have HD := Lib.hid hd; clear hd
        clear i4 i8 irow i6 iO
        gi_wp2
        refine wpIn_round_from 1 12 (fun w' => w'.cell? ⟨w1.heap.size, 0, none⟩ = some (.slice (some ⟨w.heap.size + 1 + 1, 0, none⟩) (k + 1) (k + 1)) ∧ w'.cell? ⟨w.heap.size, 0, none⟩ = some (.int .i64 s) ∧ w'.cell? ⟨w.heap.size + 1 + 1, p + s, none⟩ = some (.int .u64 (enV l (p + s))) ∧ w'.cell? ⟨w.heap.size + 1 + 1, p, none⟩ = some (.int .u64 (enV l p))) (by kernel_rfl) (by kernel_rfl) (by rintro ⟨a, w, h⟩; exact h) (fun _ _ _ _ _ h => h) (by kernel_rfl) (by decide) (by kernel_rfl) ⟨c8, c4, r1, r0⟩ ?_
        simp only [List.drop_succ_cons, List.drop_zero, List.take_succ_cons, List.take_zero]
        refine wpHeld_cons (.slice (some ⟨w.heap.size + 1 + 1, 0, none⟩) (k + 1) (k + 1)) (by kernel_rfl) ?_ ?_
        · rintro w' ⟨s0, s1, s2, s3⟩
          try go_simp
        refine wpHeld_cons (.int .i64 (p : Int)) (by kernel_rfl) ?_ ?_
        · rintro w' ⟨s0, s1, s2, s3⟩
          try go_simp
        refine wpHeld_cons (.int .i64 (s : Int)) (by kernel_rfl) ?_ ?_
        · rintro w' ⟨s0, s1, s2, s3⟩
          try go_simp
        refine wpHeld_cons (.int .i64 ((p : Int) + (s : Int))) (by kernel_rfl) ?_ ?_
        · rintro w' ⟨s0, s1, s2, s3⟩
          try go_simp
        refine wpHeld_cons (.pointer (some ⟨w.heap.size + 1 + 1, p + s, none⟩)) (by kernel_rfl) ?_ ?_
        · rintro w' ⟨s0, s1, s2, s3⟩
          go_simp
          rw [if_pos (by omega), show ((p : Int) + (s : Int)).toNat = p + s by omega]
        refine wpHeld_cons (.int .u64 (enV l (p + s))) (by kernel_rfl) ?_ ?_
        · rintro w' ⟨s0, s1, s2, s3⟩
          try go_simp
        refine wpHeld_cons (.slice (some ⟨w.heap.size + 1 + 1, 0, none⟩) (k + 1) (k + 1)) (by kernel_rfl) ?_ ?_
        · rintro w' ⟨s0, s1, s2, s3⟩
          try go_simp
        refine wpHeld_cons (.int .i64 (p : Int)) (by kernel_rfl) ?_ ?_
        · rintro w' ⟨s0, s1, s2, s3⟩
          try go_simp
        refine wpHeld_cons (.pointer (some ⟨w.heap.size + 1 + 1, p, none⟩)) (by kernel_rfl) ?_ ?_
        · rintro w' ⟨s0, s1, s2, s3⟩
          try go_simp
        refine wpHeld_cons (.int .u64 (enV l p)) (by kernel_rfl) ?_ ?_
        · rintro w' ⟨s0, s1, s2, s3⟩
          try go_simp
        refine wpHeld_cons (.int .u64 (winV l p s)) (by kernel_rfl) ?_ ?_
        · rintro w' ⟨s0, s1, s2, s3⟩
          try go_simp
        refine wpHeld_cons (.int .i64 (winV l p s)) (by kernel_rfl) ?_ ?_
        · rintro w' ⟨s0, s1, s2, s3⟩
          try go_simp
        refine wpHeld_nil ?_
        go_simp
        refine wpAnyH_two (i := 0) (j := 13) (by kernel_rfl) rfl rfl (by kernel_rfl) (by kernel_rfl) (fun K' hK' => ?_) (fun K' hK' => ?_)
        · go_simp
          refine hK' _ _ ⟨c8, c4, r1, r0⟩ ?_
          clear hK' K'
          refine wpAnyH_one (i := 13) (by kernel_rfl) rfl (by kernel_rfl) (fun K' hK' => ?_)
          go_simp
          refine hK' _ _ ⟨cell_alloc_keep c8 _, cell_alloc_keep c4 _, cell_alloc_keep r1 _, cell_alloc_keep r0 _⟩ ?_
          clear hK' K'
          refine wpAnyH_one (i := 14) (by kernel_rfl) rfl (by kernel_rfl) (fun K' hK' => ?_)
          refine wp_append_int (.tmp 50) (.tmp 63) rfl W0.heap.size v _ rfl (HI.out.2.2.2.2.alloc (.cells #[.int .i64 (winV l p s)] 3)) W.heap.size (winV l p s) rfl _ _ (blk_new W (.cells #[.int .i64 (winV l p s)] 3)) (by rw [List.length_map]; omega) (by show W0.heap.size ≤ (W.alloc (.cells #[.int .i64 (winV l p s)] 3)).heap.size; simp; omega) ?_
          intro v' w2 hO2 hB2 hg2
          obtain ⟨av, nv, cv, rfl⟩ := hO2.isSlice
          replace hB2 : Below W0.heap.size (W.alloc (.cells #[.int .i64 (winV l p s)] 3)) w2 := (Below.refl _ _ |>.drew).trans hB2
          have hWf := WinR.push (l := l) HI.out.1 HI.out.2.1 HI.out.2.2.1 HI.out.2.2.2.1 ibb hO2 hB2 (by omega) F1
          have hK2 := (KeepsOthers.alloc W (.cells #[.int .i64 (winV l p s)] 3)).trans ((KeepsOthers.drew _).trans (Ints.keeps (HI.out.2.2.2.2.alloc (.cells #[.int .i64 (winV l p s)] 3)) hg2))
          have e8 := (hB2.cell (p := ⟨w1.heap.size, 0, none⟩) (show w1.heap.size < W0.heap.size by omega)).trans (cell_alloc_keep c8 (.cells #[.int .i64 (winV l p s)] 3))
          have e4 := (hB2.cell (p := ⟨w.heap.size, 0, none⟩) (show w.heap.size < W0.heap.size by omega)).trans (cell_alloc_keep c4 (.cells #[.int .i64 (winV l p s)] 3))
          have e1 := (hB2.cell (p := ⟨w.heap.size + 1 + 1, p + s, none⟩) (show w.heap.size + 1 + 1 < W0.heap.size by omega)).trans (cell_alloc_keep r1 (.cells #[.int .i64 (winV l p s)] 3))
          have e0 := (hB2.cell (p := ⟨w.heap.size + 1 + 1, p, none⟩) (show w.heap.size + 1 + 1 < W0.heap.size by omega)).trans (cell_alloc_keep r0 (.cells #[.int .i64 (winV l p s)] 3))
          have g6 := blk_below (blk_alloc HI.out.2.2.2.1 (.cells #[.int .i64 (winV l p s)] 3)) hB2 (show w.heap.size + 1 < W0.heap.size by omega)
          have e6 := blk_cell g6 0; have h6 := blk_free g6 0
          simp at e6 h6
          have hBf := ((hB.alloc (by omega) (.cells #[.int .i64 (winV l p s)] 3)).trans (hB2.mono (by omega))).setCell (p := ⟨w.heap.size + 1, 0, none⟩) (show w.heap.size ≤ w.heap.size + 1 by omega) (.slice av nv cv)
          have hKp := push_kp (own := fun j => ¬ (j = wr.heap.size ∨ j = wr.heap.size + 1 ∨ j = wr.heap.size + 1 + 1)) (W := W) (o := (.cells #[.int .i64 (winV l p s)] 3)) (u := .slice av nv cv) hB2 (q := w.heap.size + 1) (fun k hk => by omega)
          refine hK' _ _ ⟨e8, e4, e1, e0⟩ ?_
          clear hK' K'
          refine wpAnyH_one (i := 15) (by kernel_rfl) rfl (by kernel_rfl) (fun K' hK' => ?_)
          clear hO2 hB2 hg2
          have HX := Lib.hid (show _ ∧ _ ∧ _ ∧ _ from ⟨hWf, hK2, hBf, hKp⟩); clear hWf hK2 hBf hKp
          go_simp
          refine hK' _ _ ⟨cell_far (show w1.heap.size ≠ w.heap.size + 1 by omega) e8, cell_far (show w.heap.size ≠ w.heap.size + 1 by omega) e4, cell_far (show w.heap.size + 1 + 1 ≠ w.heap.size + 1 by omega) e1, cell_far (show w.heap.size + 1 + 1 ≠ w.heap.size + 1 by omega) e0⟩ ?_
          clear hK' K'
          refine wpAnyH_done (by kernel_rfl) ?_ _
          gi_wp2
          refine ⟨(HX.out.2.1.trans (KeepsOthers.setCell _ _ _)).from _, HX.out.2.2.2, ?_, HX.out.2.2.1⟩
          rw [List.map_append, List.map_cons, List.map_nil, ← HPX.out]
          exact HX.out.1
        · go_simp
          refine hK' _ _ ⟨cell_alloc_keep c8 _, cell_alloc_keep c4 _, cell_alloc_keep r1 _, cell_alloc_keep r0 _⟩ ?_
          clear hK' K'
          refine wpAnyH_one (i := 0) (by kernel_rfl) rfl (by kernel_rfl) (fun K' hK' => ?_)
          have d6 := cell_alloc_keep c6 (.cells #[.int .i64 (winV l p s)] 3)
          go_simp
          refine hK' _ _ ⟨cell_alloc_keep c8 _, cell_alloc_keep c4 _, cell_alloc_keep r1 _, cell_alloc_keep r0 _⟩ ?_
          clear hK' K'
          clear d6
          refine wpAnyH_one (i := 14) (by kernel_rfl) rfl (by kernel_rfl) (fun K' hK' => ?_)
          refine wp_append_int (.tmp 50) (.tmp 63) rfl W0.heap.size v _ rfl (HI.out.2.2.2.2.alloc (.cells #[.int .i64 (winV l p s)] 3)) W.heap.size (winV l p s) rfl _ _ (blk_new W (.cells #[.int .i64 (winV l p s)] 3)) (by rw [List.length_map]; omega) (by show W0.heap.size ≤ (W.alloc (.cells #[.int .i64 (winV l p s)] 3)).heap.size; simp; omega) ?_
          intro v' w2 hO2 hB2 hg2
          obtain ⟨av, nv, cv, rfl⟩ := hO2.isSlice
          replace hB2 : Below W0.heap.size (W.alloc (.cells #[.int .i64 (winV l p s)] 3)) w2 := (Below.refl _ _ |>.drew).trans hB2
          have hWf := WinR.push (l := l) HI.out.1 HI.out.2.1 HI.out.2.2.1 HI.out.2.2.2.1 ibb hO2 hB2 (by omega) F1
          have hK2 := (KeepsOthers.alloc W (.cells #[.int .i64 (winV l p s)] 3)).trans ((KeepsOthers.drew _).trans (Ints.keeps (HI.out.2.2.2.2.alloc (.cells #[.int .i64 (winV l p s)] 3)) hg2))
          have e8 := (hB2.cell (p := ⟨w1.heap.size, 0, none⟩) (show w1.heap.size < W0.heap.size by omega)).trans (cell_alloc_keep c8 (.cells #[.int .i64 (winV l p s)] 3))
          have e4 := (hB2.cell (p := ⟨w.heap.size, 0, none⟩) (show w.heap.size < W0.heap.size by omega)).trans (cell_alloc_keep c4 (.cells #[.int .i64 (winV l p s)] 3))
          have e1 := (hB2.cell (p := ⟨w.heap.size + 1 + 1, p + s, none⟩) (show w.heap.size + 1 + 1 < W0.heap.size by omega)).trans (cell_alloc_keep r1 (.cells #[.int .i64 (winV l p s)] 3))
          have e0 := (hB2.cell (p := ⟨w.heap.size + 1 + 1, p, none⟩) (show w.heap.size + 1 + 1 < W0.heap.size by omega)).trans (cell_alloc_keep r0 (.cells #[.int .i64 (winV l p s)] 3))
          have g6 := blk_below (blk_alloc HI.out.2.2.2.1 (.cells #[.int .i64 (winV l p s)] 3)) hB2 (show w.heap.size + 1 < W0.heap.size by omega)
          have e6 := blk_cell g6 0; have h6 := blk_free g6 0
          simp at e6 h6
          have hBf := ((hB.alloc (by omega) (.cells #[.int .i64 (winV l p s)] 3)).trans (hB2.mono (by omega))).setCell (p := ⟨w.heap.size + 1, 0, none⟩) (show w.heap.size ≤ w.heap.size + 1 by omega) (.slice av nv cv)
          have hKp := push_kp (own := fun j => ¬ (j = wr.heap.size ∨ j = wr.heap.size + 1 ∨ j = wr.heap.size + 1 + 1)) (W := W) (o := (.cells #[.int .i64 (winV l p s)] 3)) (u := .slice av nv cv) hB2 (q := w.heap.size + 1) (fun k hk => by omega)
          refine hK' _ _ ⟨e8, e4, e1, e0⟩ ?_
          clear hK' K'
          refine wpAnyH_one (i := 15) (by kernel_rfl) rfl (by kernel_rfl) (fun K' hK' => ?_)
          clear hO2 hB2 hg2
          have HX := Lib.hid (show _ ∧ _ ∧ _ ∧ _ from ⟨hWf, hK2, hBf, hKp⟩); clear hWf hK2 hBf hKp
          go_simp
          refine hK' _ _ ⟨cell_far (show w1.heap.size ≠ w.heap.size + 1 by omega) e8, cell_far (show w.heap.size ≠ w.heap.size + 1 by omega) e4, cell_far (show w.heap.size + 1 + 1 ≠ w.heap.size + 1 by omega) e1, cell_far (show w.heap.size + 1 + 1 ≠ w.heap.size + 1 by omega) e0⟩ ?_
          clear hK' K'
          refine wpAnyH_done (by kernel_rfl) ?_ _
          gi_wp2
          refine ⟨(HX.out.2.1.trans (KeepsOthers.setCell _ _ _)).from _, HX.out.2.2.2, ?_, HX.out.2.2.1⟩
          rw [List.map_append, List.map_cons, List.map_nil, ← HPX.out]
          exact HX.out.1
      case done =>
        rintro D xs W hD hxs ⟨hI, hB⟩ hDf
        have hM := win_map (l := l) hxs
        rw [hM] at hI
        obtain ⟨i4, i8, irow, ⟨v, i6, iO⟩, ibb⟩ := hI
        obtain ⟨av, nv, cv, rfl⟩ := iO.isSlice
        have c6 := blk_cell i6 0; have f6 := blk_free i6 0
        simp at c6 f6
        have HI := Lib.hid (show _ ∧ _ from ⟨i6, iO⟩)
        clear i4 i8 irow i6 iO hM
        rename_i K hK Wx
        refine hK _ _ ?_
        go_wp2_with fail
        have hDn : D ≠ w.heap.size + 1 := by omega
        have hD2 : (W.setCell ⟨w.heap.size + 1, 0, none⟩ (.slice av nv cv)).heap[D]? = some (.deferred (some [])) := (Below.heap_setCell _ _ _ _ hDn).trans hDf
        have tp : ((W.setCell ⟨w.heap.size + 1, 0, none⟩ (.slice av nv cv)).putObj D (.deferred none)).cell? ⟨w.heap.size + 1, 0, none⟩ = some (.slice av nv cv) := blk_cell ((World.putObj_heap_other (Ne.symm hDn)).trans (one_setCell HI.out.1)) 0
        have hU : Upd (w.heap.size + 1) W (W.setCell ⟨w.heap.size + 1, 0, none⟩ (.slice av nv cv)) := (Upd.of_below (Below.refl _ _)).setCell _
        have hI2 := ((HI.out.2.upd hU (by omega)).grownNC (grownBy_putObj' _ D (.deferred none)) (fun r e => by cases e; exact ⟨_, hD2, rfl⟩)).mono (show w.heap.size ≤ W0.heap.size by omega)
        have hB2 := (hB.setCell (p := ⟨w.heap.size + 1, 0, none⟩) (show w.heap.size ≤ w.heap.size + 1 by omega) (.slice av nv cv)).trans (belowK_b (w := w) (Nat.le_refl _) _ D _ (.deferred none) (by omega) hD2 rfl rfl)
        have HZ := Lib.hid (show _ ∧ _ from ⟨hI2, hB2⟩)
        clear hI2 hB2
        refine ⟨by simp, .inl ⟨_, _, rfl, run_takeDeferred hD2, ?_⟩⟩
        exact ⟨.tuple #[.slice av nv cv, .int .i64 0], by simp [results, Try.results11, go_sem, tp], _, rfl, HZ.out.1, HZ.out.2⟩
      case stop =>
        rintro D cc pre W hD _ ⟨hF, _⟩ _
        exact hF.elim

theorem windows_ok (a : Option Addr) (b off n cap s h : Nat) (l : List Int) (w : World) (hR : Row w a b off n l) (hn : n ≤ 65536) (hs1 : 1 ≤ s) (hs2 : s ≤ 65536) (hh1 : 1 ≤ h) (hh2 : h ≤ 16777216) :
    Calls Try.prog 11 #[.slice a n cap, .int .i64 s, .int .i64 h] w fun e w' => ∃ v, e = .returned (.tuple #[v, .int .i64 0]) ∧ Ints w' w.heap.size v (winL l s h (cnt n s h)) ∧ Below w.heap.size w w' :=
  callsIn_wide.1 (windows_ok_in a b off n cap s h l w hR hn hs1 hs2 hh1 hh2)

theorem windows_no (a : Option Addr) (n cap : Nat) (s h : Int) (w : World) (hv : ¬ ((1 ≤ s ∧ s ≤ 65536) ∧ (1 ≤ h ∧ h ≤ 16777216))) :
    Calls Try.prog 11 #[.slice a n cap, .int .i64 s, .int .i64 h] w fun e w' => e = .returned (.tuple #[.slice none 0 0, .int .i64 1]) ∧ Below w.heap.size w w' := by
  by_cases h1 : 1 ≤ s ∧ s ≤ 65536
  · have h2 : ¬ (1 ≤ h ∧ h ≤ 16777216) := fun g => hv ⟨h1, g⟩
    have v1 := within_t h1; have v2 := within_f h2
    clear hv h1 h2
    go_enter Try.func11, Try.ntmps11
    go_wp2_with (go_at_call 21; refine (within_any _ _ _ _).mono ?_; rintro e w' ⟨rfl, rfl⟩)
    exact bodyPost_ret (v := .tuple #[.slice none 0 0, .int .i64 1]) (by simp [results, Try.results11, go_sem]) rfl ⟨rfl, by go_grown⟩
  · have v1 := within_f h1
    clear hv h1
    go_enter Try.func11, Try.ntmps11
    go_wp2_with (go_at_call 21; refine (within_any _ _ _ _).mono ?_; rintro e w' ⟨rfl, rfl⟩)
    exact bodyPost_ret (v := .tuple #[.slice none 0 0, .int .i64 1]) (by simp [results, Try.results11, go_sem]) rfl ⟨rfl, by go_grown⟩
end Go.Proofs.Ytgeplpigmjmfdaa
