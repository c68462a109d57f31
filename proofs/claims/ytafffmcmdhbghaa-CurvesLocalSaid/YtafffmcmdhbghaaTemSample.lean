/- The sample of a tick (layer 9). -/
import Derived.Test.YtafffmcmdhbghaaTemIter
import Derived.Deep.RegionWith
namespace Go.Proofs.Ytafffmcmdhbghaa
open Go.RowKit Go.Shelf

attribute [local go_sem] Oper.semAt_some

/-- The last of the first i points that lies at the tick or before. -/
def ofT (l : List Tp) (tick : Int) : Nat → Nat
  | 0 => 0
  | i + 1 => if (nthT l i).1 ≤ tick then i else ofT l tick i
/-- The sample of a tick, by part k. -/
def atT (l : List Tp) (tick : Int) (k : Nat) : Int := posT l k + prt (nthT l k) (nthT l (k + 1)) (tick - (nthT l k).1)
def smp (l : List Tp) (tick : Int) : Int := atT l tick (ofT l tick l.length)
theorem ofT_is {l : List Tp} {tick : Int} {k : Nat} (h1 : (nthT l k).1 ≤ tick) : ∀ n, k < n → (∀ j, k < j → j < n → tick < (nthT l j).1) → ofT l tick n = k := by
  intro n
  induction n with
  | zero => intro h; omega
  | succ n ih =>
    intro hk hj
    unfold ofT
    by_cases e : k = n
    · subst e; rw [if_pos h1]
    · have := hj n (by omega) (by omega)
      rw [if_neg (by omega)]
      exact ih (by omega) fun j h2 h3 => hj j h2 (by omega)
theorem tick_lt {l : List Tp} (h : Map l) {j k : Nat} (hjk : j < k) (hk : k < l.length) : (nthT l j).1 < (nthT l k).1 := by
  induction k with
  | zero => omega
  | succ k ih =>
    have a := map_lt h hk
    by_cases e : j = k
    · subst e; exact a
    · have := ih (by omega) (by omega); omega
theorem firstK_mem {n : Nat} {pre : List (Ix n)} {k : Nat} (h : firstK pre k) {j : Nat} (hj : j < k) : ∃ y ∈ pre, y.1 = j := by
  have : j ∈ pre.map (·.1) := by rw [h]; exact List.mem_range.2 hj
  obtain ⟨y, h1, h2⟩ := List.mem_map.1 this
  exact ⟨y, h1, h2⟩
theorem firstK_snoc {n : Nat} {pre : List (Ix n)} {x : Ix n} {k : Nat} (h : firstK (pre ++ [x]) k) : firstK pre x.1 ∧ k = x.1 + 1 := by
  unfold firstK at *
  have hl := congrArg List.length h
  simp at hl
  rw [← hl, List.map_append, List.range_succ] at h
  obtain ⟨h1, h2⟩ := List.append_inj' h rfl
  simp at h2
  rw [h2] at *
  refine ⟨?_, by omega⟩
  rw [h1]
/-- What the loop has found behind these parts. -/
def Got (l : List Tp) (tick : Int) {n : Nat} (pre : List (Ix n)) (r : Int) : Prop :=
  (pre = [] ∧ r = 0) ∨ (∃ pre' y, pre = pre' ++ [y] ∧ (nthT l y.1).1 ≤ tick ∧ (((nthT l y.1).2.2.2 = true → tick - (nthT l y.1).1 ≤ (nthT l (y.1 + 1)).1 - (nthT l y.1).1) → r = atT l tick y.1))
/-- Behind all parts. -/
theorem got_all {l : List Tp} (h : Map l) {tick : Int} {n : Nat} {pre : List (Ix n)} {r : Int} (hn : l.length = n) (hf : firstK pre n) (hg : Got l tick pre r) : r = smp l tick := by
  have h1 := h.1
  rcases hg with ⟨rfl, _⟩ | ⟨pre', y, rfl, h2, h3⟩
  · have := congrArg List.length hf; simp at this; omega
  · obtain ⟨_, hy⟩ := firstK_snoc hf
    have hr : (nthT l y.1).2.2.2 = false := by have := h.2.2.2.1; rwa [show l.length - 1 = y.1 by omega] at this
    have e := h3 (fun h => by rw [hr] at h; cases h)
    rw [e]
    unfold smp
    rw [ofT_is h2 l.length (by omega) fun j a b => by omega]
/-- Up to a part that begins later. -/
theorem got_stop {l : List Tp} (h : Map l) {tick : Int} (h0 : 0 ≤ tick) {n : Nat} {pre : List (Ix n)} {x : Ix n} {r : Int} {k : Nat} (hn : l.length = n) (hf : firstK (pre ++ [x]) k) (hx : tick < (nthT l x.1).1) (hg : Got l tick pre r) : r = smp l tick := by
  obtain ⟨hf1, _⟩ := firstK_snoc hf
  have hxl := x.2
  rcases hg with ⟨rfl, _⟩ | ⟨pre', y, rfl, h2, h3⟩
  · have := congrArg List.length hf1; simp at this
    rw [← this, h.2.2.1] at hx; omega
  · obtain ⟨_, hy⟩ := firstK_snoc hf1
    have e := h3 (fun _ => by rw [← hy]; omega)
    rw [e]
    unfold smp
    rw [ofT_is h2 l.length (by omega) fun j a b => by
      by_cases e : j = x.1
      · rw [e]; exact hx
      · have := tick_lt h (j := x.1) (k := j) (by omega) b; omega]

theorem parts_in (n : Nat) (a : Option Addr) (len cap : Nat) (w : World) :
    CallsIn Fence.wide n Try.prog 48 #[.slice a len cap] w fun e w' => e = .returned (.func (.func 55) #[] #[.pointer (some ⟨w.heap.size, 0, none⟩)]) ∧ w' = w.alloc (.cells #[.slice a len cap] 35) := by
  refine callsIn_of_wp Try.func48 rfl trivial ?_ rfl
  simp only [Try.ntmps48, List.size_toArray, List.length_cons, List.length_nil, Nat.reduceAdd, Nat.reduceSub, Array.replicate_succ, Array.replicate_zero, List.push_toArray, List.append_toArray, List.nil_append, List.cons_append]
  gi_wp2
  go_ret
  exact ⟨rfl, rfl⟩

theorem parts_stops (n : Nat) (hn : 1 ≤ n) (Bs b off len cap : Nat) (l : List Tp) (own : Nat → Prop) (hch : Map l) (hlen : l.length = len) (w : World)
    (hoB : ¬ own Bs) (hob : ¬ own b) (how : ∀ k, w.heap.size ≤ k → ¬ own k) (c : Array Value) (tb : TypeId) (fr : Nat × Nat) (hb : w.heap[b]? = some (.cells c tb fr)) (hBs : w.heap[Bs]? = some (.cells #[.slice (some ⟨b, off, none⟩) len cap] 35 (0, 0))) (hM : Ts w (some ⟨b, off, none⟩) len b off l) :
    SeqStopsK Fence.wide n Try.prog 55 #[.pointer (some ⟨Bs, 0, none⟩)] (fun x : Ix len => encS l x) (KpEx own) (fun ys => firstK ys len) (fun pre => ∃ k, k ≤ len ∧ firstK pre k) len w := fun lp J Jx W hW hJ hJx hY h0 => by
  have kb := blk_below hb hW (Array.getElem?_eq_some_iff.1 hb).1
  have kB := blk_below hBs hW (Array.getElem?_eq_some_iff.1 hBs).1
  exact parts1_in n hn lp Bs b off len cap l own hch hlen hoB hob J Jx W (fun k hk => how k (Nat.le_trans hW.size hk)) hJ hY c tb fr kb kB (hM.below hW (Array.getElem?_eq_some_iff.1 hb).1) h0

set_option maxRecDepth 100000 in
set_option maxHeartbeats 4000000 in
theorem sample_in (b off len cap : Nat) (l : List Tp) (tick : Int) (w : World) (hch : Map l) (hlen : l.length = len) (h0 : 0 ≤ tick) (h1 : tick ≤ 16777216) (c : Array Value) (tb : TypeId) (fr : Nat × Nat) (hb : w.heap[b]? = some (.cells c tb fr)) (hM : Ts w (some ⟨b, off, none⟩) len b off l) :
    CallsIn Fence.wide 5 Try.prog 36 #[.slice (some ⟨b, off, none⟩) len cap, .int .i64 tick] w fun e w' => Below w.heap.size w w' ∧ e = .returned (.int .i64 (smp l tick)) := by
  have hro : Fence.wide.round = none := rfl
  have hbw : b < w.heap.size := (Array.getElem?_eq_some_iff.1 hb).1
  refine callsIn_of_wp_marks Try.func36 rfl trivial ?_ hro
  simp only [Try.ntmps36, List.size_toArray, List.length_cons, List.length_nil, Nat.reduceAdd, Nat.reduceSub, Array.replicate_succ, Array.replicate_zero, List.push_toArray, List.append_toArray, List.nil_append, List.cons_append]
  obtain ⟨w0, hw0⟩ : ∃ w0, w0 = ((w.alloc (.cells #[.int .i64 tick] 3)).alloc (.cells #[.int .i64 0] 3)) := ⟨_, rfl⟩
  have hB0 : Below w.heap.size w w0 := by rw [hw0]; go_grown
  have z0 : w0.heap.size = w.heap.size + 1 + 1 := by rw [hw0]; simp
  have k0 : w0.heap[w.heap.size]? = some (.cells #[.int .i64 tick] 3 (0, 0)) := by rw [hw0]; exact blk_alloc (blk_new w _) _
  have k1 : w0.heap[w.heap.size + 1]? = some (.cells #[.int .i64 0] 3 (0, 0)) := by rw [hw0]; exact blk_new2 _ _ _
  gi_wp2_with fail
  refine ⟨trivial, ?_⟩
  rw [← hw0]
  refine (parts_in _ _ _ _ _).mono ?_
  rintro e w' ⟨rfl, rfl⟩
  have Z0 := Lib.hid z0
  clear hw0 z0
  gi_wp2
  obtain ⟨W0, hW0⟩ : ∃ W0, W0 = w0.alloc (.cells #[.slice (some ⟨b, off, none⟩) len cap] 35) := ⟨_, rfl⟩
  have zW : W0.heap.size = w0.heap.size + 1 := by rw [hW0]; simp
  have hBW : Below w.heap.size w W0 := by rw [hW0]; exact hB0.alloc hB0.size _
  have j0 : W0.heap[w.heap.size]? = some (.cells #[.int .i64 tick] 3 (0, 0)) := by rw [hW0]; exact blk_alloc k0 _
  have j1 : W0.heap[w.heap.size + 1]? = some (.cells #[.int .i64 0] 3 (0, 0)) := by rw [hW0]; exact blk_alloc k1 _
  have jB : W0.heap[w0.heap.size]? = some (.cells #[.slice (some ⟨b, off, none⟩) len cap] 35 (0, 0)) := by rw [hW0]; exact blk_new _ _
  have jb := blk_below hb hBW hbw
  have jM := hM.below hBW hbw
  rw [← hW0]
  have z0 : w.heap.size + 1 + 1 ≤ w0.heap.size := Nat.le_of_eq Z0.out.symm
  clear k0 k1
  refine wpIn_rangeFunc_ownH rfl (by omega) (gf := 55) (lb := #[.pointer (some ⟨w0.heap.size, 0, none⟩)]) rfl trivial (enters_of Try.func55 (by kernel_rfl) rfl)
    (parts_stops _ (by omega) w0.heap.size b off len cap l (fun k => k = w.heap.size + 1) hch hlen W0 (by omega) (by omega) (fun k hk => by omega) c tb fr jb jB jM)
    kpEx_t kpEx_b (Below.refl _ _) (fun _ => rfl)
    (fun pre W => (W.heap[w.heap.size]? = some (.cells #[.int .i64 tick] 3 (0, 0)) ∧ ∃ r, W.heap[w.heap.size + 1]? = some (.cells #[.int .i64 r] 3 (0, 0)) ∧ Got l tick pre r) ∧ Below w.heap.size w W)
    (fun c pre W => (c = .exit 0 ∧ ∃ pre' y r, pre = pre' ++ [y] ∧ tick < (nthT l y.1).1 ∧ W.heap[w.heap.size + 1]? = some (.cells #[.int .i64 r] 3 (0, 0)) ∧ Got l tick pre' r) ∧ Below w.heap.size w W)
    (OwnFrom.and (Own.from (fun s A B row hs hg hr => by obtain ⟨h1, r, h2, h3⟩ := hs; exact ⟨blk_kept h1 hg hr, r, blk_kept h2 hg hr, h3⟩) _) (ownFrom_below (Nat.le_refl _) (by omega)))
    (fun c => OwnFrom.and (Own.from (fun s A B row hs hg hr => by obtain ⟨h1, pre', y, r, h2, h3, h4, h5⟩ := hs; exact ⟨h1, pre', y, r, h2, h3, blk_kept h4 hg hr, h5⟩) _) (ownFrom_below (Nat.le_refl _) (by omega)))
    ⟨⟨j0, 0, j1, .inl ⟨rfl, rfl⟩⟩, hBW⟩
    (fun x a' W => ∃ Bx, w.heap.size + 1 < Bx ∧ W.heap[Bx]? = some (.cells #[.int .i64 (nthT l x.1).1, .int .i64 (nthT l x.1).2.1, .int .i64 (nthT l x.1).2.2.1, .bool (nthT l x.1).2.2.2, .int .i64 (nthT l (x.1 + 1)).1, .int .i64 (nthT l (x.1 + 1)).2.1, .int .i64 (nthT l (x.1 + 1)).2.2.1, .bool (nthT l (x.1 + 1)).2.2.2] 78 (0, 0)) ∧ a' = { tmps := #[.slice (some ⟨b, off, none⟩) len cap, .int .i64 tick, undef, .pointer (some ⟨w.heap.size, 0, none⟩), .int .i64 0, .pointer (some ⟨w.heap.size + 1, 0, none⟩), .int .i64 (posT l x.1), .pointer (some ⟨Bx, 0, none⟩), .slice (some ⟨b, off, none⟩) len cap, .func (.func 55) #[] #[.pointer (some ⟨w0.heap.size, 0, none⟩)], .int .i64 (posT l x.1), .agg #[.int .i64 (nthT l x.1).1, .int .i64 (nthT l x.1).2.1, .int .i64 (nthT l x.1).2.2.1, .bool (nthT l x.1).2.2.2, .int .i64 (nthT l (x.1 + 1)).1, .int .i64 (nthT l (x.1 + 1)).2.1, .int .i64 (nthT l (x.1 + 1)).2.2.1, .bool (nthT l (x.1 + 1)).2.2.2], undef, undef, undef, undef, undef, undef, undef, undef, undef, undef, undef, undef, undef, undef, undef, undef, undef], defers := [] })
    (fun x a' => Own.from (fun s A B row hs hg hr => by obtain ⟨Bx, h1, h2, h3⟩ := hs; exact ⟨Bx, h1, blk_kept h2 hg hr, h3⟩) _) ?assign ?body ?done ?stop
  case assign =>
    rintro lp pre x W K ⟨⟨h5, r, h6, h7⟩, hB⟩ hK
    simp only [encS, encP]
    gi_wp2
    refine hK _ _ ((KeepsOthers.alloc _ _).from _) (KpEx.alloc _ _ _) ⟨⟨blk_alloc h5 _, r, blk_alloc h6 _, h7⟩, hB.alloc hB.size _⟩ ⟨W.heap.size, ?_, blk_new W _, rfl⟩
    exact (Array.getElem?_eq_some_iff.1 h6).1
  case body =>
    rintro lp pre x a' W _ _ ⟨⟨h0, r, h1, h5⟩, hB⟩ ⟨Bx, hBx, hX, rfl⟩ _
    have b0 := blk_cell h0 0; have b1 := blk_cell h1 0; have g1 := blk_free h1 0
    have x0 := blk_cell hX 0; have x1 := blk_cell hX 1; have x2 := blk_cell hX 2; have x3 := blk_cell hX 3; have x4 := blk_cell hX 4; have x5 := blk_cell hX 5; have x6 := blk_cell hX 6; have x7 := blk_cell hX 7
    simp at b0 b1 g1 x0 x1 x2 x3 x4 x5 x6 x7
    have hxl : x.1 < l.length := by rw [hlen]; exact x.2
    have hok := map_ok hch hxl
    have tk := posT_bd hch x.1 hxl
    have tx : x.1 ≤ 64 := by have := hch.2.1; omega
    have HI := Lib.hid (show _ ∧ _ ∧ _ from ⟨h0, h1, h5⟩)
    have t0 := hok.1.1; have t1 := hok.1.2.1
    have HO := Lib.hid hok
    clear h0 h1 h5 hX hch hM hlen jM hok
    by_cases q1 : tick < (nthT l x.1).1
    · gi_wp2
      exact ⟨KeepsFrom.refl _ _, ⟨rfl, pre, x, r, rfl, q1, HI.out.2.1, HI.out.2.2⟩, hB⟩
    have u1 : IntKind.i64.wrap (tick - (nthT l x.1).1) = tick - (nthT l x.1).1 := wrap_id (by omega)
    gi_wp2_with fail
    refine ⟨trivial, ?_⟩
    refine (CallsIn.inRound lp (callsIn_wide.2 (samples_any (nthT l x.1) (nthT l (x.1 + 1)) (tick - (nthT l x.1).1) _ HO.out (by omega) (by omega)))).mono ?_
    rintro e W4 ⟨⟨v, hv, rfl⟩, hb4⟩
    have k1 := blk_below HI.out.2.1 hb4 (Array.getElem?_eq_some_iff.1 HI.out.2.1).1
    have k0 := blk_below HI.out.1 hb4 (Array.getElem?_eq_some_iff.1 HI.out.1).1
    have hs4 := hb4.size
    have b1 := blk_cell k1 0; have g1 := blk_free k1 0
    simp at b1 g1
    have HV := Lib.hid (show _ ∧ _ ∧ _ ∧ _ from ⟨hv, hb4, k0, k1⟩)
    clear hv hb4 k0 k1 x0 x1 x2 x3 x4 x5 x6 x7
    gi_wp2
    have hG : ((nthT l x.1).2.2.2 = true → tick - (nthT l x.1).1 ≤ (nthT l (x.1 + 1)).1 - (nthT l x.1).1) → wrap64 (posT l x.1 + v) = atT l tick x.1 := fun hc => by
      have hp := prt_bd HO.out (t := tick - (nthT l x.1).1) (by omega) (by omega) hc
      rw [HV.out.1 hc]
      unfold atT
      exact IntWalk.wrap64_in _ (by omega)
    exact ⟨((keeps_below HV.out.2.1).trans (KeepsOthers.setCell _ _ _)).from _, kpEx_t (KpEx.below _ HV.out.2.1) (KpEx.setCell (own := fun k => k = w.heap.size + 1) (a := ⟨w.heap.size + 1, 0, none⟩) rfl _), ⟨(Below.heap_setCell _ _ _ _ (show w.heap.size ≠ w.heap.size + 1 by omega)).trans HV.out.2.2.1, _, one_setCell HV.out.2.2.2, .inr ⟨pre, x, rfl, by omega, hG⟩⟩, (below_after hB HV.out.2.1 hB.size).setCell (p := ⟨w.heap.size + 1, 0, none⟩) (show w.heap.size ≤ w.heap.size + 1 by omega) _⟩
  case done =>
    rintro D xs W hD hxs ⟨⟨h0, r, h1, h5⟩, hB⟩ hDf
    have b1 := blk_cell h1 0
    simp at b1
    have hr := got_all hch hlen hxs h5
    subst hr
    clear h5 hch hM jM
    rename_i K hK
    refine hK _ _ (wpIn_wide.2 ?_)
    go_wp2_with fail
    refine ⟨by simp, .inl ⟨_, _, rfl, run_takeDeferred hDf, ?_⟩⟩
    exact ⟨.int .i64 (smp l tick), by simp [results, Try.results36, go_sem], hB.trans (belowK_b (w := w) (Nat.le_refl _) _ D _ _ (by omega) hDf rfl rfl), rfl⟩
  case stop =>
    rintro D cc pre W hD ⟨k, hk, hf⟩ ⟨⟨rfl, pre', y, r, rfl, hlt, h1, h5⟩, hB⟩ hDf
    have b1 := blk_cell h1 0
    simp at b1
    have hr := got_stop hch h0 hlen hf hlt h5
    subst hr
    clear h5 hch hM jM hf
    gi_wp2_with fail
    refine ⟨by simp, .inl ⟨_, _, rfl, run_takeDeferred hDf, ?_⟩⟩
    exact ⟨.int .i64 (smp l tick), by simp [results, Try.results36, go_sem], hB.trans (belowK_b (w := w) (Nat.le_refl _) _ D _ _ (by omega) hDf rfl rfl), rfl⟩
end Go.Proofs.Ytafffmcmdhbghaa
