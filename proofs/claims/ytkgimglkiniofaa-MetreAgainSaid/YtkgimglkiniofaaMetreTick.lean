/- The contract of metre.Tick (layer 10). -/
import Derived.Test.YtkgimglkiniofaaMetreIter
import Derived.Deep.RegionWith
namespace Go.Proofs.Ytkgimglkiniofaa
open Go.RowKit Go.Shelf

attribute [local go_sem] Oper.semAt_some

theorem stretches_in (F : Fence) (n : Nat) (h21 : F.fn 21) (hro : F.round = none) (a : Option Addr) (len cap : Nat) (w : World) :
    CallsIn F n Try.prog 21 #[.slice a len cap] w fun e w' => e = .returned (.func (.func 26) #[] #[.pointer (some ⟨w.heap.size, 0, none⟩)]) ∧ w' = w.alloc (.cells #[.slice a len cap] 22) := by
  refine callsIn_of_wp Try.func21 rfl h21 ?_ hro
  simp only [Try.ntmps21, List.size_toArray, List.length_cons, List.length_nil, Nat.reduceAdd, Nat.reduceSub, Array.replicate_succ, Array.replicate_zero, List.push_toArray, List.append_toArray, List.nil_append, List.cons_append]
  gi_wp2
  go_ret
  exact ⟨rfl, rfl⟩

theorem stretches_stops (F : Fence) (n : Nat) (h26 : F.fn 26) (hro : F.round = none) (hn : 1 ≤ n) (Bs b off len cap : Nat) (l : List Mt) (own : Nat → Prop) (hch : Changes l) (hlen : l.length = len) (w : World)
    (hoB : ¬ own Bs) (hob : ¬ own b) (how : ∀ k, w.heap.size ≤ k → ¬ own k) (c : Array Value) (tb : TypeId) (fr : Nat × Nat) (hb : w.heap[b]? = some (.cells c tb fr)) (hBs : w.heap[Bs]? = some (.cells #[.slice (some ⟨b, off, none⟩) len cap] 22 (0, 0))) (hM : Ms w (some ⟨b, off, none⟩) len b off l) :
    SeqStopsK F n Try.prog 26 #[.pointer (some ⟨Bs, 0, none⟩)] (fun x : Ix len => encS l x) (KpEx own) (fun ys => firstK ys len) (fun pre => ∃ k, k ≤ len ∧ firstK pre k) len w := fun lp J Jx W hW hJ hJx hY h0 => by
  have kb := blk_below hb hW (Array.getElem?_eq_some_iff.1 hb).1
  have kB := blk_below hBs hW (Array.getElem?_eq_some_iff.1 hBs).1
  exact stretches1_in F n h26 hro hn lp Bs b off len cap l own hch hlen hoB hob J Jx W (fun k hk => how k (Nat.le_trans hW.size hk)) hJ hY c tb fr kb kB (hM.below hW (Array.getElem?_eq_some_iff.1 hb).1) h0

def okB (l : List Mt) (bar : Int) (k : Nat) : Prop := (nthM l k).1 ≤ bar ∧ bar < endOf l k
def placeIn (l : List Mt) (k : Nat) (beat off : Int) : Prop := 0 ≤ beat ∧ beat ≤ (nthM l k).2.1 - 1 ∧ 0 ≤ off ∧ off ≤ (nthM l k).2.2 - 1
def tickAt (l : List Mt) (k : Nat) (bar beat off : Int) : Int := tickOf l k + (bar - (nthM l k).1) * lenOf l k + beat * (nthM l k).2.2 + off

/-- Each of these stretches ends at the bar or before. -/
def AllEnd (l : List Mt) (bar : Int) {n : Nat} (pre : List (Ix n)) : Prop := ∀ y ∈ pre, endOf l y.1 ≤ bar
theorem AllEnd.snoc {l : List Mt} {bar : Int} {n : Nat} {pre : List (Ix n)} {x : Ix n} (h : AllEnd l bar pre) (hx : endOf l x.1 ≤ bar) : AllEnd l bar (pre ++ [x]) :=
  fun y hy => (List.mem_append.1 hy).elim (h y) (fun e => by rw [List.mem_singleton.1 e]; exact hx)

/-- What the loop of Tick has found: at stretch k. -/
def FoundAt (l : List Mt) (bar beat rest : Int) (k : Nat) (t e : Int) : Prop :=
  bar < endOf l k ∧ ((bar < (nthM l k).1 ∧ t = 0 ∧ e = 1) ∨ ((nthM l k).1 ≤ bar ∧ placeIn l k beat rest ∧ t = tickAt l k bar beat rest ∧ e = 0) ∨ ((nthM l k).1 ≤ bar ∧ ¬ placeIn l k beat rest ∧ t = 0 ∧ e = 1))

/-- What the loop leaves: a tick and an error. -/
def TickIs (l : List Mt) (bar beat rest t e : Int) : Prop :=
  (∃ k, k < l.length ∧ (∀ j, j < k → endOf l j ≤ bar) ∧ FoundAt l bar beat rest k t e) ∨ ((∀ j, j < l.length → endOf l j ≤ bar) ∧ t = 0 ∧ e = 1)
theorem firstK_mem {n : Nat} {pre : List (Ix n)} {k : Nat} (h : firstK pre k) {j : Nat} (hj : j < k) : ∃ y ∈ pre, y.1 = j := by
  have : j ∈ pre.map (·.1) := by rw [h]; exact List.mem_range.2 hj
  obtain ⟨y, h1, h2⟩ := List.mem_map.1 this
  exact ⟨y, h1, h2⟩
theorem firstK_snoc {n : Nat} {pre : List (Ix n)} {x : Ix n} {k : Nat} (h : firstK (pre ++ [x]) k) : firstK pre x.1 ∧ k = x.1 + 1 := by
  unfold firstK at *
  have hl := congrArg List.length h
  simp at hl
  rw [← hl, List.map_append, List.range_succ] at h
  obtain ⟨h1, h2⟩ := List.append_inj' h rfl
  simp at h2
  rw [h2] at *
  refine ⟨?_, by omega⟩
  rw [h1]

theorem two_cells {W : World} {p q : Nat} {a b x y : Value} {t1 t2 : TypeId} (hp : W.heap[p]? = some (.cells #[a] t1 (0, 0))) (hq : W.heap[q]? = some (.cells #[b] t2 (0, 0))) (hpq : p ≠ q) :
    ((W.setCell ⟨p, 0, none⟩ x).setCell ⟨q, 0, none⟩ y).cell? ⟨p, 0, none⟩ = some x ∧ ((W.setCell ⟨p, 0, none⟩ x).setCell ⟨q, 0, none⟩ y).cell? ⟨q, 0, none⟩ = some y := by
  have h1 : ((W.setCell ⟨p, 0, none⟩ x).setCell ⟨q, 0, none⟩ y).heap[p]? = some (.cells #[x] t1 (0, 0)) :=
    (Below.heap_setCell _ _ _ _ hpq).trans (one_setCell hp)
  have h2 : ((W.setCell ⟨p, 0, none⟩ x).setCell ⟨q, 0, none⟩ y).heap[q]? = some (.cells #[y] t2 (0, 0)) :=
    one_setCell ((Below.heap_setCell _ _ _ _ (Ne.symm hpq)).trans hq)
  exact ⟨blk_cell h1 0, blk_cell h2 0⟩
theorem two_put {W : World} {p q D : Nat} {a b x y : Value} {t1 t2 : TypeId} {o : Obj} (hp : W.heap[p]? = some (.cells #[a] t1 (0, 0))) (hq : W.heap[q]? = some (.cells #[b] t2 (0, 0))) (hpq : p ≠ q) (hpD : p ≠ D) (hqD : q ≠ D) :
    ((((W.setCell ⟨p, 0, none⟩ x).setCell ⟨q, 0, none⟩ y).drew).putObj D o).cell? ⟨p, 0, none⟩ = some x ∧ ((((W.setCell ⟨p, 0, none⟩ x).setCell ⟨q, 0, none⟩ y).drew).putObj D o).cell? ⟨q, 0, none⟩ = some y := by
  have h1 : ((((W.setCell ⟨p, 0, none⟩ x).setCell ⟨q, 0, none⟩ y).drew).putObj D o).heap[p]? = some (.cells #[x] t1 (0, 0)) :=
    (World.putObj_heap_other hpD).trans (blk_drew ((Below.heap_setCell _ _ _ _ hpq).trans (one_setCell hp)))
  have h2 : ((((W.setCell ⟨p, 0, none⟩ x).setCell ⟨q, 0, none⟩ y).drew).putObj D o).heap[q]? = some (.cells #[y] t2 (0, 0)) :=
    (World.putObj_heap_other hqD).trans (blk_drew (one_setCell ((Below.heap_setCell _ _ _ _ (Ne.symm hpq)).trans hq)))
  exact ⟨blk_cell h1 0, blk_cell h2 0⟩
theorem put2_deferred {W : World} {p q D : Nat} {x y : Value} {o : Obj} (h : W.heap[D]? = some o) (hpD : p ≠ D) (hqD : q ≠ D) : (((W.setCell ⟨p, 0, none⟩ x).setCell ⟨q, 0, none⟩ y).drew).heap[D]? = some o :=
  (Below.heap_setCell _ _ _ _ (Ne.symm hqD)).trans ((Below.heap_setCell _ _ _ _ (Ne.symm hpD)).trans h)

theorem two_put' {W : World} {p q D : Nat} {a b x y : Value} {t1 t2 : TypeId} {o : Obj} (hp : W.heap[p]? = some (.cells #[a] t1 (0, 0))) (hq : W.heap[q]? = some (.cells #[b] t2 (0, 0))) (hpq : p ≠ q) (hpD : p ≠ D) (hqD : q ≠ D) :
    ((((W.setCell ⟨p, 0, none⟩ x).setCell ⟨q, 0, none⟩ y)).putObj D o).cell? ⟨p, 0, none⟩ = some x ∧ ((((W.setCell ⟨p, 0, none⟩ x).setCell ⟨q, 0, none⟩ y)).putObj D o).cell? ⟨q, 0, none⟩ = some y := by
  have h1 : ((((W.setCell ⟨p, 0, none⟩ x).setCell ⟨q, 0, none⟩ y)).putObj D o).heap[p]? = some (.cells #[x] t1 (0, 0)) :=
    (World.putObj_heap_other hpD).trans (((Below.heap_setCell _ _ _ _ hpq).trans (one_setCell hp)))
  have h2 : ((((W.setCell ⟨p, 0, none⟩ x).setCell ⟨q, 0, none⟩ y)).putObj D o).heap[q]? = some (.cells #[y] t2 (0, 0)) :=
    (World.putObj_heap_other hqD).trans ((one_setCell ((Below.heap_setCell _ _ _ _ (Ne.symm hpq)).trans hq)))
  exact ⟨blk_cell h1 0, blk_cell h2 0⟩
theorem put2_deferred' {W : World} {p q D : Nat} {x y : Value} {o : Obj} (h : W.heap[D]? = some o) (hpD : p ≠ D) (hqD : q ≠ D) : (((W.setCell ⟨p, 0, none⟩ x).setCell ⟨q, 0, none⟩ y)).heap[D]? = some o :=
  (Below.heap_setCell _ _ _ _ (Ne.symm hqD)).trans ((Below.heap_setCell _ _ _ _ (Ne.symm hpD)).trans h)

set_option maxRecDepth 100000 in
set_option maxHeartbeats 4000000 in
theorem tick_in (b off len cap : Nat) (l : List Mt) (bar beat rest : Int) (w : World) (hch : Changes l) (hlen : l.length = len) (c : Array Value) (tb : TypeId) (fr : Nat × Nat) (hb : w.heap[b]? = some (.cells c tb fr)) (hM : Ms w (some ⟨b, off, none⟩) len b off l) :
    CallsIn Fence.wide 5 Try.prog 11 #[.slice (some ⟨b, off, none⟩) len cap, .int .i64 bar, .int .i64 beat, .int .i64 rest] w fun e w' => Below w.heap.size w w' ∧ ∃ t r, TickIs l bar beat rest t r ∧ e = .returned (.tuple #[.int .i64 (if 16777216 < t then 0 else t), .int .i64 (if 16777216 < t then 70 else r)]) := by
  have hro : Fence.wide.round = none := rfl
  have hbw : b < w.heap.size := (Array.getElem?_eq_some_iff.1 hb).1
  have hc0 := chk_yes hch
  refine callsIn_of_wp_marks Try.func11 rfl trivial ?_ hro
  simp only [Try.ntmps11, List.size_toArray, List.length_cons, List.length_nil, Nat.reduceAdd, Nat.reduceSub, Array.replicate_succ, Array.replicate_zero, List.push_toArray, List.append_toArray, List.nil_append, List.cons_append]
  obtain ⟨w0, hw0⟩ : ∃ w0, w0 = ((((w.alloc (.cells #[.int .i64 bar] 3)).alloc (.cells #[.int .i64 beat] 3)).alloc (.cells #[.int .i64 rest] 3)).alloc (.cells #[.int .i64 0] 3)).alloc (.cells #[.int .i64 0] 24) := ⟨_, rfl⟩
  have hB0 : Below w.heap.size w w0 := by rw [hw0]; go_grown
  have hM0 := hM.below hB0 hbw
  gi_wp2
  refine wpIn_scope_wide ?_
  gi_wp2_with fail
  refine ⟨trivial, ?_⟩
  have z0 : w0.heap.size = w.heap.size + 5 := by rw [hw0]; simp
  have k0 : w0.heap[w.heap.size]? = some (.cells #[.int .i64 bar] 3 (0, 0)) := by rw [hw0]; have := blk_new w (.cells #[.int .i64 bar] 3); exact blk_alloc (blk_alloc (blk_alloc (blk_alloc (this) _) _) _) _
  have k1 : w0.heap[w.heap.size + 1]? = some (.cells #[.int .i64 beat] 3 (0, 0)) := by rw [hw0]; have := blk_new (w.alloc (.cells #[.int .i64 bar] 3)) (.cells #[.int .i64 beat] 3); rw [World.size_alloc] at this; exact blk_alloc (blk_alloc (blk_alloc (this) _) _) _
  have k2 : w0.heap[w.heap.size + 1 + 1]? = some (.cells #[.int .i64 rest] 3 (0, 0)) := by rw [hw0]; have := blk_new ((w.alloc (.cells #[.int .i64 bar] 3)).alloc (.cells #[.int .i64 beat] 3)) (.cells #[.int .i64 rest] 3); rw [World.size_alloc, World.size_alloc] at this; exact blk_alloc (blk_alloc (this) _) _
  have k3 : w0.heap[w.heap.size + 1 + 1 + 1]? = some (.cells #[.int .i64 0] 3 (0, 0)) := by rw [hw0]; have := blk_new (((w.alloc (.cells #[.int .i64 bar] 3)).alloc (.cells #[.int .i64 beat] 3)).alloc (.cells #[.int .i64 rest] 3)) (.cells #[.int .i64 0] 3); rw [World.size_alloc, World.size_alloc, World.size_alloc] at this; exact blk_alloc (this) _
  have k4 : w0.heap[w.heap.size + 1 + 1 + 1 + 1]? = some (.cells #[.int .i64 0] 24 (0, 0)) := by rw [hw0]; have := blk_new ((((w.alloc (.cells #[.int .i64 bar] 3)).alloc (.cells #[.int .i64 beat] 3)).alloc (.cells #[.int .i64 rest] 3)).alloc (.cells #[.int .i64 0] 3)) (.cells #[.int .i64 0] 24); rw [World.size_alloc, World.size_alloc, World.size_alloc, World.size_alloc] at this; exact this
  rw [← hw0]
  refine (callsIn_wide.2 (mcheck_any _ _ _ b off l _ hM0 (by have := hch.2.1; omega))).mono ?_
  rintro e w1 ⟨rfl, hb1⟩
  rw [hc0]
  replace k0 := blk_below k0 hb1 (by omega)
  replace k1 := blk_below k1 hb1 (by omega)
  replace k2 := blk_below k2 hb1 (by omega)
  replace k3 := blk_below k3 hb1 (by omega)
  replace k4 := blk_below k4 hb1 (by omega)
  have z1 := hb1.size
  have B1 := below_after hB0 hb1 (by omega)
  have c4 := blk_cell k4 0; have f4 := blk_free k4 0
  simp at c4 f4
  have K0 := Lib.hid k0; have K1 := Lib.hid k1; have K2 := Lib.hid k2; have K3 := Lib.hid k3; have K4 := Lib.hid k4
  clear k0 k1 k2 k3 k4 hb1 hw0 hc0
  gi_wp2
  refine wpIn_label ?_
  gi_wp2_with fail
  refine ⟨trivial, ?_⟩
  refine (stretches_in Fence.wide _ trivial rfl _ _ _ _).mono ?_
  rintro e w' ⟨rfl, rfl⟩
  gi_wp2
  obtain ⟨W0, hW0⟩ : ∃ W0, W0 = (w1.setCell ⟨w.heap.size + 1 + 1 + 1 + 1, 0, none⟩ (.int .i64 1)).alloc (.cells #[.slice (some ⟨b, off, none⟩) len cap] 22) := ⟨_, rfl⟩
  have zW : W0.heap.size = w1.heap.size + 1 := by rw [hW0]; simp
  have hBW : Below w.heap.size w W0 := by rw [hW0]; exact ((B1.setCell (p := ⟨w.heap.size + 1 + 1 + 1 + 1, 0, none⟩) (show w.heap.size ≤ w.heap.size + 1 + 1 + 1 + 1 by omega) _).alloc (by simp; omega) _)
  have j0 : W0.heap[w.heap.size]? = some (.cells #[.int .i64 bar] 3 (0, 0)) := by rw [hW0]; exact blk_alloc ((Below.heap_setCell _ _ _ _ (show w.heap.size ≠ w.heap.size + 1 + 1 + 1 + 1 by omega)).trans K0.out) _
  have j1 : W0.heap[w.heap.size + 1]? = some (.cells #[.int .i64 beat] 3 (0, 0)) := by rw [hW0]; exact blk_alloc ((Below.heap_setCell _ _ _ _ (show w.heap.size + 1 ≠ w.heap.size + 1 + 1 + 1 + 1 by omega)).trans K1.out) _
  have j2 : W0.heap[w.heap.size + 1 + 1]? = some (.cells #[.int .i64 rest] 3 (0, 0)) := by rw [hW0]; exact blk_alloc ((Below.heap_setCell _ _ _ _ (show w.heap.size + 1 + 1 ≠ w.heap.size + 1 + 1 + 1 + 1 by omega)).trans K2.out) _
  have j3 : W0.heap[w.heap.size + 1 + 1 + 1]? = some (.cells #[.int .i64 0] 3 (0, 0)) := by rw [hW0]; exact blk_alloc ((Below.heap_setCell _ _ _ _ (show w.heap.size + 1 + 1 + 1 ≠ w.heap.size + 1 + 1 + 1 + 1 by omega)).trans K3.out) _
  have j4 : W0.heap[w.heap.size + 1 + 1 + 1 + 1]? = some (.cells #[.int .i64 1] 24 (0, 0)) := by rw [hW0]; exact blk_alloc (one_setCell K4.out) _
  have jB : W0.heap[w1.heap.size]? = some (.cells #[.slice (some ⟨b, off, none⟩) len cap] 22 (0, 0)) := by
    rw [hW0]; have := blk_new (w1.setCell ⟨w.heap.size + 1 + 1 + 1 + 1, 0, none⟩ (.int .i64 1)) (.cells #[.slice (some ⟨b, off, none⟩) len cap] 22); rwa [World.size_setCell] at this
  have jb := blk_below hb hBW hbw
  have jM := hM.below hBW hbw
  rw [← hW0]
  clear c4 f4
  refine wpIn_rangeFunc_ownH rfl (by omega) (gf := 26) (lb := #[.pointer (some ⟨w1.heap.size, 0, none⟩)]) rfl trivial (enters_of Try.func26 (by kernel_rfl) rfl)
    (stretches_stops Fence.wide _ trivial rfl (by omega) w1.heap.size b off len cap l (fun k => k = w.heap.size + 1 + 1 + 1 ∨ k = w.heap.size + 1 + 1 + 1 + 1) hch hlen W0 (by omega) (by omega) (fun k hk => by omega) c tb fr jb jB jM)
    kpEx_t kpEx_b (Below.refl _ _) (fun _ => rfl)
    (fun pre W => ((W.heap[w.heap.size]? = some (.cells #[.int .i64 bar] 3 (0, 0)) ∧ W.heap[w.heap.size + 1]? = some (.cells #[.int .i64 beat] 3 (0, 0)) ∧ W.heap[w.heap.size + 1 + 1]? = some (.cells #[.int .i64 rest] 3 (0, 0))) ∧ (W.heap[w.heap.size + 1 + 1 + 1]? = some (.cells #[.int .i64 0] 3 (0, 0)) ∧ W.heap[w.heap.size + 1 + 1 + 1 + 1]? = some (.cells #[.int .i64 1] 24 (0, 0))) ∧ AllEnd l bar pre) ∧ Below w.heap.size w W)
    (fun c pre W => (c = .exit 0 ∧ ∃ pre' y t e, pre = pre' ++ [y] ∧ AllEnd l bar pre' ∧ FoundAt l bar beat rest y.1 t e ∧ W.heap[w.heap.size + 1 + 1 + 1]? = some (.cells #[.int .i64 t] 3 (0, 0)) ∧ W.heap[w.heap.size + 1 + 1 + 1 + 1]? = some (.cells #[.int .i64 e] 24 (0, 0))) ∧ Below w.heap.size w W)
    (OwnFrom.and (Own.from (fun s A B row hs hg hr => ⟨⟨blk_kept hs.1.1 hg hr, blk_kept hs.1.2.1 hg hr, blk_kept hs.1.2.2 hg hr⟩, ⟨blk_kept hs.2.1.1 hg hr, blk_kept hs.2.1.2 hg hr⟩, hs.2.2⟩) _) (ownFrom_below (Nat.le_refl _) (by omega)))
    (fun c => OwnFrom.and (Own.from (fun s A B row hs hg hr => by obtain ⟨h1, pre', y, t, e, h2, h3, h4, h5, h6⟩ := hs; exact ⟨h1, pre', y, t, e, h2, h3, h4, blk_kept h5 hg hr, blk_kept h6 hg hr⟩) _) (ownFrom_below (Nat.le_refl _) (by omega)))
    ⟨⟨⟨j0, j1, j2⟩, ⟨j3, j4⟩, fun y hy => by cases hy⟩, hBW⟩
    (fun x a' W => ∃ Bx, w.heap.size + 1 + 1 + 1 + 1 < Bx ∧ W.heap[Bx]? = some (.cells #[.int .i64 (nthM l x.1).1, .int .i64 (nthM l x.1).2.1, .int .i64 (nthM l x.1).2.2, .int .i64 (endOf l x.1), .int .i64 (lenOf l x.1)] 45 (0, 0)) ∧ a' = { tmps := #[.slice (some ⟨b, off, none⟩) len cap, .int .i64 bar, .int .i64 beat, .int .i64 rest, undef, .pointer (some ⟨w.heap.size, 0, none⟩), .pointer (some ⟨w.heap.size + 1, 0, none⟩), .pointer (some ⟨w.heap.size + 1 + 1, 0, none⟩), .pointer (some ⟨w.heap.size + 1 + 1 + 1, 0, none⟩), .pointer (some ⟨w.heap.size + 1 + 1 + 1 + 1, 0, none⟩), .int .i64 0, .int .i64 (tickOf l x.1), .pointer (some ⟨Bx, 0, none⟩), .slice (some ⟨b, off, none⟩) len cap, .int .i64 0, .int .i64 0, .bool false, undef, .slice (some ⟨b, off, none⟩) len cap, .func (.func 26) #[] #[.pointer (some ⟨w1.heap.size, 0, none⟩)], .int .i64 (tickOf l x.1), .agg #[.int .i64 (nthM l x.1).1, .int .i64 (nthM l x.1).2.1, .int .i64 (nthM l x.1).2.2, .int .i64 (endOf l x.1), .int .i64 (lenOf l x.1)], undef, undef, undef, undef, undef, undef, undef, undef, undef, undef, undef, undef, undef, undef, undef, undef, undef, undef, undef, undef, undef, undef, undef, undef, undef, undef, undef, undef, undef, undef, undef, undef, undef, undef, undef, undef, undef, undef, undef, undef, undef, undef, undef, undef, undef, undef, undef, undef], defers := [] })
    (fun x a' => Own.from (fun s A B row hs hg hr => by obtain ⟨Bx, h1, h2, h3⟩ := hs; exact ⟨Bx, h1, blk_kept h2 hg hr, h3⟩) _) ?assign ?body ?done ?stop
  case assign =>
    rintro lp pre x W K ⟨⟨h5, h6, h7⟩, hB⟩ hK
    simp only [encS]
    gi_wp2
    refine hK _ _ ((KeepsOthers.alloc _ _).from _) (KpEx.alloc _ _ _) ⟨⟨⟨blk_alloc h5.1 _, blk_alloc h5.2.1 _, blk_alloc h5.2.2 _⟩, ⟨blk_alloc h6.1 _, blk_alloc h6.2 _⟩, h7⟩, hB.alloc hB.size _⟩ ⟨W.heap.size, ?_, blk_new W _, rfl⟩
    exact (Array.getElem?_eq_some_iff.1 h6.2).1
  case body =>
    rintro lp pre x a' W _ _ ⟨⟨⟨h0, h1, h2⟩, ⟨h3, h4⟩, h5⟩, hB⟩ ⟨Bx, hBx, hX, rfl⟩ _
    have b0 := blk_cell h0 0; have b1 := blk_cell h1 0; have b2 := blk_cell h2 0
    have b3 := blk_cell h3 0; have b4 := blk_cell h4 0; have g3 := blk_free h3 0; have g4 := blk_free h4 0
    have x0 := blk_cell hX 0; have x1 := blk_cell hX 1; have x2 := blk_cell hX 2; have x3 := blk_cell hX 3; have x4 := blk_cell hX 4
    simp at b0 b1 b2 b3 b4 g3 g4 x0 x1 x2 x3 x4
    have hxl : x.1 < l.length := by rw [hlen]; exact x.2
    have hm := (hch.2.2.2 x.1 hxl).1
    have tx : x.1 ≤ 64 := by have := hch.2.1; omega
    have ln := lenOf_bd hm
    have en := endOf_bd hch hxl
    have tk := tickOf_bd hch x.1 (by omega)
    have HI := Lib.hid (show _ ∧ _ ∧ _ ∧ _ ∧ _ from ⟨h0, h1, h2, h3, h4⟩)
    have H5 := Lib.hid h5
    clear h0 h1 h2 h3 h4 hX h5 hch hM hlen hM0 jM
    obtain ⟨m1, m2, m3, m4, m5, m6⟩ := hm
    by_cases q1 : bar < (nthM l x.1).1
    · gi_wp2
      exact ⟨KeepsFrom.refl _ _, ⟨rfl, pre, x, 0, 1, rfl, H5.out, ⟨by omega, .inl ⟨q1, rfl, rfl⟩⟩, HI.out.2.2.2.1, HI.out.2.2.2.2⟩, hB⟩
    · by_cases q2 : endOf l x.1 ≤ bar
      · gi_wp2
        exact ⟨KeepsFrom.refl _ _, KpEx.refl _ _, ⟨⟨HI.out.1, HI.out.2.1, HI.out.2.2.1⟩, ⟨HI.out.2.2.2.1, HI.out.2.2.2.2⟩, H5.out.snoc q2⟩, hB⟩
      · have pm1 : (bar - (nthM l x.1).1) * lenOf l x.1 ≤ 1048577 * lenOf l x.1 := Int.mul_le_mul_of_nonneg_right (by omega) (by omega)
        have pm0 : 0 ≤ (bar - (nthM l x.1).1) * lenOf l x.1 := Int.mul_nonneg (by omega) (by omega)
        by_cases q3 : 0 ≤ beat ∧ beat ≤ (nthM l x.1).2.1 - 1
        · have v3 := within_t q3
          by_cases q4 : 0 ≤ rest ∧ rest ≤ (nthM l x.1).2.2 - 1
          · have v4 := within_t q4
            have pb1 : beat * (nthM l x.1).2.2 ≤ 32 * (nthM l x.1).2.2 := Int.mul_le_mul_of_nonneg_right (by omega) (by omega)
            have pb0 : 0 ≤ beat * (nthM l x.1).2.2 := Int.mul_nonneg (by omega) (by omega)
            gi_wp2_with (refine ⟨trivial, ?_⟩; gi_at_call 22; refine (CallsIn.inRound lp (callsIn_wide.2 (within_any _ _ _ _))).mono ?_; rintro e w' ⟨rfl, rfl⟩)
            refine ⟨((KeepsOthers.setCell _ _ _).trans (KeepsOthers.setCell _ _ _)).from _, ⟨rfl, pre, x, tickAt l x.1 bar beat rest, 0, rfl, H5.out, ⟨by omega, .inr (.inl ⟨by omega, ⟨q3.1, q3.2, q4.1, q4.2⟩, rfl, rfl⟩)⟩, ?_, ?_⟩, (hB.setCell (p := ⟨w.heap.size + 1 + 1 + 1, 0, none⟩) (show w.heap.size ≤ w.heap.size + 1 + 1 + 1 by omega) _).setCell (p := ⟨w.heap.size + 1 + 1 + 1 + 1, 0, none⟩) (show w.heap.size ≤ w.heap.size + 1 + 1 + 1 + 1 by omega) _⟩
            · exact (Below.heap_setCell _ _ _ _ (show w.heap.size + 1 + 1 + 1 ≠ w.heap.size + 1 + 1 + 1 + 1 by omega)).trans (one_setCell HI.out.2.2.2.1)
            · exact one_setCell ((Below.heap_setCell _ _ _ _ (show w.heap.size + 1 + 1 + 1 + 1 ≠ w.heap.size + 1 + 1 + 1 by omega)).trans HI.out.2.2.2.2)
          · have v4 := within_f q4
            have Q4 := Lib.hid q4; clear q4
            gi_wp2_with (refine ⟨trivial, ?_⟩; gi_at_call 22; refine (CallsIn.inRound lp (callsIn_wide.2 (within_any _ _ _ _))).mono ?_; rintro e w' ⟨rfl, rfl⟩)
            exact ⟨KeepsFrom.refl _ _, ⟨rfl, pre, x, 0, 1, rfl, H5.out, ⟨by omega, .inr (.inr ⟨by omega, fun g => Q4.out ⟨g.2.2.1, g.2.2.2⟩, rfl, rfl⟩)⟩, HI.out.2.2.2.1, HI.out.2.2.2.2⟩, hB⟩
        · have v3 := within_f q3
          have Q3 := Lib.hid q3; clear q3
          gi_wp2_with fail
          refine ⟨trivial, ?_⟩
          refine (CallsIn.inRound lp (callsIn_wide.2 (within_any _ _ _ _))).mono ?_
          rintro e w' ⟨rfl, rfl⟩
          rw [v3]
          gi_wp2
          refine ⟨trivial, ?_⟩
          gi_wp2
          exact ⟨KeepsFrom.refl _ _, ⟨rfl, pre, x, 0, 1, rfl, H5.out, ⟨by omega, .inr (.inr ⟨by omega, fun g => Q3.out ⟨g.1, g.2.1⟩, rfl, rfl⟩)⟩, HI.out.2.2.2.1, HI.out.2.2.2.2⟩, hB⟩
  case done =>
    rintro D xs W hD hxs ⟨⟨⟨h0, h1, h2⟩, ⟨h3, h4⟩, h5⟩, hB⟩ hDf
    have b3 := blk_cell h3 0; have b4 := blk_cell h4 0; have g3 := blk_free h3 0; have g4 := blk_free h4 0
    simp at b3 b4 g3 g4
    have HT : TickIs l bar beat rest 0 1 := .inr ⟨fun j hj => by obtain ⟨y, hy, rfl⟩ := firstK_mem hxs (hlen ▸ hj); exact h5 y hy, rfl, rfl⟩
    rename_i K hK
    refine hK _ _ (wpIn_wide.2 ?_)
    go_wp2_with fail
    have HH := Lib.hid (show _ ∧ _ ∧ _ ∧ _ ∧ _ from ⟨h0, h1, h2, h3, h4⟩); have H5 := Lib.hid h5
    clear h0 h1 h2 h3 h4 h5 hch hM hM0
    go_region_with fail
    all_goals go_wp2_with fail
    all_goals (
      have hD2 := put2_deferred (p := w.heap.size + 1 + 1 + 1) (q := w.heap.size + 1 + 1 + 1 + 1) (x := .int .i64 0) (y := .int .i64 1) hDf (by omega) (by omega)
      have tp := two_put (p := w.heap.size + 1 + 1 + 1) (q := w.heap.size + 1 + 1 + 1 + 1) (x := .int .i64 0) (y := .int .i64 1) (D := D) (o := .deferred none) HH.out.2.2.2.1 HH.out.2.2.2.2 (by omega) (by omega) (by omega)
      refine ⟨by simp, .inl ⟨_, _, rfl, run_takeDeferred hD2, ?_⟩⟩
      exact ⟨.tuple #[.int .i64 0, .int .i64 1], by simp [results, Try.results11, go_sem, tp.1, tp.2], (((hB.setCell (p := ⟨w.heap.size + 1 + 1 + 1, 0, none⟩) (show w.heap.size ≤ w.heap.size + 1 + 1 + 1 by omega) _).setCell (p := ⟨w.heap.size + 1 + 1 + 1 + 1, 0, none⟩) (show w.heap.size ≤ w.heap.size + 1 + 1 + 1 + 1 by omega) _).drew).trans (belowK_b (w := w) (Nat.le_refl _) _ D _ _ (by omega) hD2 rfl rfl), _, _, HT, by simp⟩)
  case stop =>
    rintro D cc pre W hD ⟨k, hk, hf⟩ ⟨⟨rfl, pre', y, t, r, rfl, hA, hF, h3, h4⟩, hB⟩ hDf
    have HT : TickIs l bar beat rest t r := .inl ⟨y.1, hlen ▸ y.2, fun j hj => by obtain ⟨z, hz, rfl⟩ := firstK_mem (firstK_snoc hf).1 hj; exact hA z hz, hF⟩
    have b3 := blk_cell h3 0; have b4 := blk_cell h4 0; have g3 := blk_free h3 0; have g4 := blk_free h4 0
    simp at b3 b4 g3 g4
    rename_i K hK
    have HH := Lib.hid (show _ ∧ _ from ⟨h3, h4⟩); have HA := Lib.hid hA; have HF := Lib.hid hF; have HTT := Lib.hid HT
    clear h3 h4 hA hF HT hf hch hM hM0
    by_cases q : 16777216 < t
    · gi_wp2
      (
        have hD2 := put2_deferred' (p := w.heap.size + 1 + 1 + 1) (q := w.heap.size + 1 + 1 + 1 + 1) (x := .int .i64 0) (y := .int .i64 70) hDf (by omega) (by omega)
        have tp := two_put' (p := w.heap.size + 1 + 1 + 1) (q := w.heap.size + 1 + 1 + 1 + 1) (x := .int .i64 0) (y := .int .i64 70) (D := D) (o := .deferred none) HH.out.1 HH.out.2 (by omega) (by omega) (by omega)
        refine ⟨by simp, .inl ⟨_, _, rfl, run_takeDeferred hD2, ?_⟩⟩
        exact ⟨.tuple #[.int .i64 0, .int .i64 70], by simp [results, Try.results11, go_sem, tp.1, tp.2], (((hB.setCell (p := ⟨w.heap.size + 1 + 1 + 1, 0, none⟩) (show w.heap.size ≤ w.heap.size + 1 + 1 + 1 by omega) _).setCell (p := ⟨w.heap.size + 1 + 1 + 1 + 1, 0, none⟩) (show w.heap.size ≤ w.heap.size + 1 + 1 + 1 + 1 by omega) _)).trans (belowK_b (w := w) (Nat.le_refl _) _ D _ _ (by omega) hD2 rfl rfl), t, r, HTT.out, by rw [if_pos q, if_pos q]⟩)
    · gi_wp2_with fail
      rename_i K2 hK2
      refine wpIn_wide.2 ?_
      go_region_with fail
      all_goals (refine hK2 _ _ (wpIn_wide.2 ?_))
      all_goals go_wp2_with fail
      all_goals (
        have hD2 := put2_deferred (p := w.heap.size + 1 + 1 + 1) (q := w.heap.size + 1 + 1 + 1 + 1) (x := .int .i64 t) (y := .int .i64 r) hDf (by omega) (by omega)
        have tp := two_put (p := w.heap.size + 1 + 1 + 1) (q := w.heap.size + 1 + 1 + 1 + 1) (x := .int .i64 t) (y := .int .i64 r) (D := D) (o := .deferred none) HH.out.1 HH.out.2 (by omega) (by omega) (by omega)
        refine ⟨by simp, .inl ⟨_, _, rfl, run_takeDeferred hD2, ?_⟩⟩
        exact ⟨.tuple #[.int .i64 t, .int .i64 r], by simp [results, Try.results11, go_sem, tp.1, tp.2], (((hB.setCell (p := ⟨w.heap.size + 1 + 1 + 1, 0, none⟩) (show w.heap.size ≤ w.heap.size + 1 + 1 + 1 by omega) _).setCell (p := ⟨w.heap.size + 1 + 1 + 1 + 1, 0, none⟩) (show w.heap.size ≤ w.heap.size + 1 + 1 + 1 + 1 by omega) _).drew).trans (belowK_b (w := w) (Nat.le_refl _) _ D _ _ (by omega) hD2 rfl rfl), t, r, HTT.out, by rw [if_neg (show ¬ 16777216 < t by omega), if_neg (show ¬ 16777216 < t by omega)]⟩)

theorem Ms.grown {w w' : World} {a : Option Addr} {n b off : Nat} {l : List Mt} (h : Ms w a n b off l) (hb : Below w.heap.size w w') : Ms w' a n b off l := by
  by_cases hn : 0 < n
  · exact h.below hb (h.2.1 hn).2
  · exact ⟨h.1, fun k => absurd k hn, fun i hi => absurd hi (by omega)⟩

set_option maxRecDepth 100000 in
set_option maxHeartbeats 4000000 in
theorem tick_no (a : Option Addr) (b off len cap : Nat) (l : List Mt) (bar beat rest : Int) (w : World) (hch : ¬ Changes l) (hM : Ms w a len b off l) (hn : len ≤ 9223372036854775807) :
    CallsIn Fence.wide 5 Try.prog 11 #[.slice a len cap, .int .i64 bar, .int .i64 beat, .int .i64 rest] w fun e w' => Below w.heap.size w w' ∧ e = .returned (.tuple #[.int .i64 0, .int .i64 100]) := by
  have hro : Fence.wide.round = none := rfl
  have hc0 := chk_no hch
  refine callsIn_of_wp_marks Try.func11 rfl trivial ?_ hro
  simp only [Try.ntmps11, List.size_toArray, List.length_cons, List.length_nil, Nat.reduceAdd, Nat.reduceSub, Array.replicate_succ, Array.replicate_zero, List.push_toArray, List.append_toArray, List.nil_append, List.cons_append]
  obtain ⟨w0, hw0⟩ : ∃ w0, w0 = ((((w.alloc (.cells #[.int .i64 bar] 3)).alloc (.cells #[.int .i64 beat] 3)).alloc (.cells #[.int .i64 rest] 3)).alloc (.cells #[.int .i64 0] 3)).alloc (.cells #[.int .i64 0] 24) := ⟨_, rfl⟩
  have hB0 : Below w.heap.size w w0 := by rw [hw0]; go_grown
  have hM0 := hM.grown hB0
  gi_wp2
  refine wpIn_scope_wide ?_
  gi_wp2_with fail
  refine ⟨trivial, ?_⟩
  have z0 : w0.heap.size = w.heap.size + 5 := by rw [hw0]; simp
  have k0 : w0.heap[w.heap.size]? = some (.cells #[.int .i64 bar] 3 (0, 0)) := by rw [hw0]; have := blk_new w (.cells #[.int .i64 bar] 3); exact blk_alloc (blk_alloc (blk_alloc (blk_alloc (this) _) _) _) _
  have k1 : w0.heap[w.heap.size + 1]? = some (.cells #[.int .i64 beat] 3 (0, 0)) := by rw [hw0]; have := blk_new (w.alloc (.cells #[.int .i64 bar] 3)) (.cells #[.int .i64 beat] 3); rw [World.size_alloc] at this; exact blk_alloc (blk_alloc (blk_alloc (this) _) _) _
  have k2 : w0.heap[w.heap.size + 1 + 1]? = some (.cells #[.int .i64 rest] 3 (0, 0)) := by rw [hw0]; have := blk_new ((w.alloc (.cells #[.int .i64 bar] 3)).alloc (.cells #[.int .i64 beat] 3)) (.cells #[.int .i64 rest] 3); rw [World.size_alloc, World.size_alloc] at this; exact blk_alloc (blk_alloc (this) _) _
  have k3 : w0.heap[w.heap.size + 1 + 1 + 1]? = some (.cells #[.int .i64 0] 3 (0, 0)) := by rw [hw0]; have := blk_new (((w.alloc (.cells #[.int .i64 bar] 3)).alloc (.cells #[.int .i64 beat] 3)).alloc (.cells #[.int .i64 rest] 3)) (.cells #[.int .i64 0] 3); rw [World.size_alloc, World.size_alloc, World.size_alloc] at this; exact blk_alloc (this) _
  have k4 : w0.heap[w.heap.size + 1 + 1 + 1 + 1]? = some (.cells #[.int .i64 0] 24 (0, 0)) := by rw [hw0]; have := blk_new ((((w.alloc (.cells #[.int .i64 bar] 3)).alloc (.cells #[.int .i64 beat] 3)).alloc (.cells #[.int .i64 rest] 3)).alloc (.cells #[.int .i64 0] 3)) (.cells #[.int .i64 0] 24); rw [World.size_alloc, World.size_alloc, World.size_alloc, World.size_alloc] at this; exact this
  rw [← hw0]
  refine (callsIn_wide.2 (mcheck_any _ _ _ b off l _ hM0 hn)).mono ?_
  rintro e w1 ⟨rfl, hb1⟩
  rw [hc0]
  replace k0 := blk_below k0 hb1 (by omega)
  replace k1 := blk_below k1 hb1 (by omega)
  replace k2 := blk_below k2 hb1 (by omega)
  replace k3 := blk_below k3 hb1 (by omega)
  replace k4 := blk_below k4 hb1 (by omega)
  have z1 := hb1.size
  have B1 := below_after hB0 hb1 (by omega)
  have c4 := blk_cell k4 0; have f4 := blk_free k4 0
  have c3 := blk_cell k3 0; have f3 := blk_free k3 0
  simp at c4 f4 c3 f3
  have K0 := Lib.hid k0; have K1 := Lib.hid k1; have K2 := Lib.hid k2; have K3 := Lib.hid k3; have K4 := Lib.hid k4
  clear k0 k1 k2 k3 k4 hb1 hw0 hc0
  gi_wp2
  have tp := two_cells (x := .int .i64 0) (y := .int .i64 100) K3.out K4.out (by omega)
  exact ⟨.tuple #[.int .i64 0, .int .i64 100], by simp [results, Try.results11, go_sem, tp.1, tp.2], ((B1.setCell (p := ⟨w.heap.size + 1 + 1 + 1, 0, none⟩) (show w.heap.size ≤ w.heap.size + 1 + 1 + 1 by omega) _).setCell (p := ⟨w.heap.size + 1 + 1 + 1 + 1, 0, none⟩) (show w.heap.size ≤ w.heap.size + 1 + 1 + 1 + 1 by omega) _), rfl⟩

/-- What Tick answers. -/
def TickRes (l : List Mt) (bar beat rest t r : Int) : Prop :=
  (¬ Changes l ∧ t = 0 ∧ r = 100) ∨ (Changes l ∧ ∃ t0 r0, TickIs l bar beat rest t0 r0 ∧ t = (if 16777216 < t0 then 0 else t0) ∧ r = if 16777216 < t0 then 70 else r0)

theorem tick_any (a : Option Addr) (b off len cap : Nat) (l : List Mt) (bar beat rest : Int) (w : World) (hM : Ms w a len b off l) (hn : len ≤ 9223372036854775807) (hb : 0 < len → ∃ c tb fr, w.heap[b]? = some (.cells c tb fr)) :
    Calls Try.prog 11 #[.slice a len cap, .int .i64 bar, .int .i64 beat, .int .i64 rest] w fun e w' => Below w.heap.size w w' ∧ ∃ t r, TickRes l bar beat rest t r ∧ e = .returned (.tuple #[.int .i64 t, .int .i64 r]) := by
  by_cases hch : Changes l
  · have hl : 0 < len := by have := hch.1; rw [hM.1] at this; omega
    obtain ⟨c, tb, fr, hb⟩ := hb hl
    obtain ⟨rfl, _⟩ := hM.2.1 hl
    refine (callsIn_wide.1 (tick_in b off len cap l bar beat rest w hch hM.1 c tb fr hb hM)).mono ?_
    rintro e w' ⟨hB, t, r, hT, rfl⟩
    exact ⟨hB, _, _, .inr ⟨hch, t, r, hT, rfl, rfl⟩, rfl⟩
  · refine (callsIn_wide.1 (tick_no a b off len cap l bar beat rest w hch hM hn)).mono ?_
    rintro e w' ⟨hB, rfl⟩
    exact ⟨hB, _, _, .inl ⟨hch, rfl, rfl⟩, rfl⟩
end Go.Proofs.Ytkgimglkiniofaa
