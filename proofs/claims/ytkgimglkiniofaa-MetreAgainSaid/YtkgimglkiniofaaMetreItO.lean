/- The iterator over the stretches, where the body also writes to slices that it makes (layer 10). -/
import Derived.Test.YtkgimglkiniofaaMetreCol
import Derived.Laws.EntriesVeiled
namespace Go.Proofs.Ytkgimglkiniofaa
open Go.RowKit Go.Shelf

attribute [local go_sem] Oper.semAt_some

/-- Cells that are not the caller's own lie as they lay: by their place and what they hold. -/
structure KpO (own : Nat → Obj → Prop) (W W' : World) : Prop where
  size : W.heap.size ≤ W'.heap.size
  same : ∀ (k : Nat) (o : Obj), W.heap[k]? = some o → o.isCells = true → ¬ own k o → W'.heap[k]? = some o
theorem KpO.refl (own : Nat → Obj → Prop) (W : World) : KpO own W W := ⟨Nat.le_refl _, fun _ _ h _ _ => h⟩
theorem kpO_t {own : Nat → Obj → Prop} : ∀ {A B C : World}, KpO own A B → KpO own B C → KpO own A C := fun h k =>
  ⟨Nat.le_trans h.size k.size, fun i o hi ho hn => k.same i o (h.same i o hi ho hn) ho hn⟩
theorem kpO_b {own : Nat → Obj → Prop} {B : Nat} : ∀ (W : World) (l : Nat) (o o' : Obj), B ≤ l → W.heap[l]? = some o → o.isCells = false → o.isWalk = false → KpO own W (W.putObj l o') := fun W l o o' _ hl ho _ =>
  ⟨by simp, fun k x hk hx _ => by
    by_cases e : k = l
    · subst e; rw [hl] at hk; cases hk; rw [ho] at hx; cases hx
    · exact (World.putObj_heap_other e).trans hk⟩
theorem KpO.alloc (own : Nat → Obj → Prop) (W : World) (o : Obj) : KpO own W (W.alloc o) :=
  ⟨by simp, fun k _ hk _ _ => (Below.heap_alloc W o k (Array.getElem?_eq_some_iff.1 hk).1).trans hk⟩
theorem KpO.below (own : Nat → Obj → Prop) {W W' : World} (h : Below W.heap.size W W') : KpO own W W' :=
  ⟨h.size, fun k _ hk _ _ => (h.block k (Array.getElem?_eq_some_iff.1 hk).1).trans hk⟩

set_option maxRecDepth 100000 in
set_option maxHeartbeats 4000000 in
theorem stretches1_inO (F : Fence) (n : Nat) (h26 : F.fn 26) (hro : F.round = none) (hn : 1 ≤ n) (lp Bs b off len cap : Nat) (l : List Mt) (own : Nat → Obj → Prop) (hch : Changes l) (hlen : l.length = len)
    (J Jx : List (Ix len) → World → Prop)
    (W : World) (hoW : ∀ k cs, ¬ own k (.cells cs 45 (0, 0))) (hJ : AbidesFrom W.heap.size J)
    (hY : ∀ pre x W1, J pre W1 → pre.length < len → YieldAt F (n - 1) Try.prog lp (encS l x) W1 fun e W' =>
      (e = .returned (.bool true) ∧ J (pre ++ [x]) W' ∧ KpO own W1 W') ∨ (e = .returned (.bool false) ∧ Jx (pre ++ [x]) W'))
    (c : Array Value) (tb : TypeId) (fr : Nat × Nat) (hb : W.heap[b]? = some (.cells c tb fr)) (hBs : W.heap[Bs]? = some (.cells #[.slice (some ⟨b, off, none⟩) len cap] 22 (0, 0))) (hM : Ms W (some ⟨b, off, none⟩) len b off l) (hoB : ¬ own Bs (.cells #[.slice (some ⟨b, off, none⟩) len cap] 22 (0, 0))) (hob : ¬ own b (.cells c tb fr)) (h0 : J [] W) :
    CallsIn F n Try.prog 26 #[.func (.yield lp) #[] #[], .pointer (some ⟨Bs, 0, none⟩)] W fun e W' => (∃ v, e = .returned v) ∧
      ((∃ ys, firstK ys len ∧ J ys W') ∨ (∃ pre, (∃ k, k ≤ len ∧ firstK pre k) ∧ Jx pre W')) := by
  refine callsIn_of_wp Try.func26 rfl h26 ?_ hro
  simp only [Try.ntmps26, List.size_toArray, List.length_cons, List.length_nil, Nat.reduceAdd, Nat.reduceSub, Array.replicate_succ, Array.replicate_zero, List.push_toArray, List.append_toArray, List.nil_append, List.cons_append]
  have cB := blk_cell hBs 0
  simp at cB
  gi_wp2
  gi_loopw [3, 9] (fun t i wr => ∃ (k : Nat) (pre : List (Ix len)), k ≤ len ∧ i = .int .i64 k ∧ t = .int .i64 (tickOf l k) ∧ firstK pre k ∧ J pre wr ∧ KpO own W wr) (fun _ i _ => len - (intOf i).toNat)
  case atStart => exact ⟨0, [], Nat.zero_le _, rfl, rfl, rfl, h0, KpO.refl _ _⟩
  case round =>
    obtain ⟨k, pre, hk, rfl, rfl, hpre, hJr, hKr⟩ := hrel
    have kB := hKr.same _ _ hBs rfl hoB
    have kb := hKr.same _ _ hb rfl hob
    have cB := blk_cell kB 0
    simp at cB
    have hcell : ∀ o, wr.cell? ⟨b, o, none⟩ = W.cell? ⟨b, o, none⟩ := fun o => by rw [blk_cell kb o, blk_cell hb o]
    have HC := Lib.hid hcell; clear hcell
    have hbr : b < wr.heap.size := (Array.getElem?_eq_some_iff.1 kb).1
    have hBr : Bs < wr.heap.size := (Array.getElem?_eq_some_iff.1 kB).1
    have hk64 : len ≤ 64 := by rw [← hlen]; exact hch.2.1
    have HP := Lib.hid hpre; clear hpre kB kb
    by_cases hlt : k < len
    · obtain ⟨c0, c1, c2⟩ := hM.2.2 k hlt
      rw [← HC.out] at c0 c1 c2
      have hm := (hch.2.2.2 k (by omega)).1
      have ln := lenOf_bd hm
      have en := endOf_bd hch (show k < l.length by omega)
      have tk := tickOf_bd hch k (by omega)
      have HL := Lib.hid hlen; have HCH := Lib.hid hch; have HM := Lib.hid hM; clear hch hM hlen
      obtain ⟨m1, m2, m3, m4, m5, m6⟩ := hm
      have eln : lenOf l k = (nthM l k).2.1 * (nthM l k).2.2 := rfl
      have tn : tickOf l (k + 1) = tickOf l k + (endOf l k - (nthM l k).1) * lenOf l k := rfl
      have tk1 := tickOf_bd HCH.out (k + 1) (by rw [HL.out]; omega)
      have pm0 : 0 ≤ (endOf l k - (nthM l k).1) * lenOf l k := Int.mul_nonneg (by omega) (by omega)
      have pm1 : (endOf l k - (nthM l k).1) * lenOf l k ≤ 1048577 * lenOf l k := Int.mul_le_mul_of_nonneg_right (by omega) (by omega)
      have E : encS l (⟨k, hlt⟩ : Ix len) = #[.int .i64 (tickOf l k), .agg #[.int .i64 (nthM l k).1, .int .i64 (nthM l k).2.1, .int .i64 (nthM l k).2.2, .int .i64 (endOf l k), .int .i64 (lenOf l k)]] := rfl
      have ee : endOf l k = if k + 1 < len then (nthM l (k + 1)).1 else 1048577 := by unfold endOf; rw [HL.out]
      rw [eln] at ln tn pm0 pm1 E
      clear eln
      have hP : pre.length = k := by have := congrArg List.length HP.out; simpa using this
      have hsz := hKr.size
      by_cases hlast : k + 1 < len
      · obtain ⟨d0, _, _⟩ := HM.out.2.2 (k + 1) hlast
        rw [← HC.out] at d0
        rw [if_pos hlast] at ee
        rw [ee] at E en tn pm0 pm1
        generalize hx : nthM l k = x at *
        obtain ⟨B0, E0, U0⟩ := x
        generalize hz : (nthM l (k + 1)).1 = z at *
        dsimp only at *
        obtain ⟨wX, hwX⟩ : ∃ wX, wX = (wr.alloc (.cells #[.int .i64 B0, .int .i64 E0, .int .i64 U0] 38)).alloc (.cells #[.int .i64 B0, .int .i64 E0, .int .i64 U0, .int .i64 z, .int .i64 (E0 * U0)] 45) := ⟨_, rfl⟩
        have hBX : Below wr.heap.size wr wX := by rw [hwX]; exact ((Below.refl _ wr).alloc (Nat.le_refl _) _).alloc (by simp) _
        have hkX : wX.heap[wr.heap.size + 1]? = some (.cells #[.int .i64 B0, .int .i64 E0, .int .i64 U0, .int .i64 z, .int .i64 (E0 * U0)] 45 (0, 0)) := by
          rw [hwX]; have := blk_new (wr.alloc (.cells #[.int .i64 B0, .int .i64 E0, .int .i64 U0] 38)) (.cells #[.int .i64 B0, .int .i64 E0, .int .i64 U0, .int .i64 z, .int .i64 (E0 * U0)] 45); rwa [World.size_alloc] at this
        obtain ⟨fn, tmps, assign, bdy, hy, hR⟩ := hY pre ⟨k, hlt⟩ wX (abides_below hJ hJr hBX) (by omega)
        rw [E, hwX] at hy
        rw [hwX] at hR
        have TN := Lib.hid tn; have HX := Lib.hid hx; have EE := Lib.hid ee; have HPP := Lib.hid hP; clear tn hx ee E hP
        gi_wp2
        refine hR.mono ?_
        rw [← hwX]
        have HWX := Lib.hid hwX; clear hwX hy hR
        rintro e W3 (⟨rfl, hJ3, hk3⟩ | ⟨rfl, hJx3⟩)
        · have k3 := hk3.same _ _ hkX rfl (hoW _ _)
          have s0 := blk_cell k3 0; have s3 := blk_cell k3 3; have s4 := blk_cell k3 4
          simp at s0 s3 s4
          clear k3
          gi_wp2
          go_roundw
          case rel => exact ⟨k + 1, pre ++ [⟨k, hlt⟩], by omega, by go_num, by rw [TN.out], by unfold firstK; rw [List.map_append, HP.out, List.range_succ]; rfl, hJ3, kpO_t (kpO_t hKr (KpO.below own hBX)) hk3⟩
          case measure => simp [intOf]; omega
        · gi_wp2
          refine bodyPost_ret (results_none rfl _ _ _) rfl ?_
          exact ⟨⟨_, rfl⟩, .inr ⟨pre ++ [⟨k, hlt⟩], ⟨k + 1, by omega, by unfold firstK; rw [List.map_append, HP.out, List.range_succ]; rfl⟩, hJx3⟩⟩
      · rw [if_neg hlast] at ee
        rw [ee] at E en tn pm0 pm1
        generalize hx : nthM l k = x at *
        obtain ⟨B0, E0, U0⟩ := x
        dsimp only at *
        obtain ⟨wX, hwX⟩ : ∃ wX, wX = (wr.alloc (.cells #[.int .i64 B0, .int .i64 E0, .int .i64 U0] 38)).alloc (.cells #[.int .i64 B0, .int .i64 E0, .int .i64 U0, .int .i64 1048577, .int .i64 (E0 * U0)] 45) := ⟨_, rfl⟩
        have hBX : Below wr.heap.size wr wX := by rw [hwX]; exact ((Below.refl _ wr).alloc (Nat.le_refl _) _).alloc (by simp) _
        have hkX : wX.heap[wr.heap.size + 1]? = some (.cells #[.int .i64 B0, .int .i64 E0, .int .i64 U0, .int .i64 1048577, .int .i64 (E0 * U0)] 45 (0, 0)) := by
          rw [hwX]; have := blk_new (wr.alloc (.cells #[.int .i64 B0, .int .i64 E0, .int .i64 U0] 38)) (.cells #[.int .i64 B0, .int .i64 E0, .int .i64 U0, .int .i64 1048577, .int .i64 (E0 * U0)] 45); rwa [World.size_alloc] at this
        obtain ⟨fn, tmps, assign, bdy, hy, hR⟩ := hY pre ⟨k, hlt⟩ wX (abides_below hJ hJr hBX) (by omega)
        rw [E, hwX] at hy
        rw [hwX] at hR
        have TN := Lib.hid tn; have HX := Lib.hid hx; have EE := Lib.hid ee; have HPP := Lib.hid hP; clear tn hx ee E hP
        gi_wp2
        refine hR.mono ?_
        rw [← hwX]
        have HWX := Lib.hid hwX; clear hwX hy hR
        rintro e W3 (⟨rfl, hJ3, hk3⟩ | ⟨rfl, hJx3⟩)
        · have k3 := hk3.same _ _ hkX rfl (hoW _ _)
          have s0 := blk_cell k3 0; have s3 := blk_cell k3 3; have s4 := blk_cell k3 4
          simp at s0 s3 s4
          clear k3
          gi_wp2
          go_roundw
          case rel => exact ⟨k + 1, pre ++ [⟨k, hlt⟩], by omega, by go_num, by rw [TN.out], by unfold firstK; rw [List.map_append, HP.out, List.range_succ]; rfl, hJ3, kpO_t (kpO_t hKr (KpO.below own hBX)) hk3⟩
          case measure => simp [intOf]; omega
        · gi_wp2
          refine bodyPost_ret (results_none rfl _ _ _) rfl ?_
          exact ⟨⟨_, rfl⟩, .inr ⟨pre ++ [⟨k, hlt⟩], ⟨k + 1, by omega, by unfold firstK; rw [List.map_append, HP.out, List.range_succ]; rfl⟩, hJx3⟩⟩
    · obtain rfl : k = len := by omega
      gi_wp2
      go_end0
      exact ⟨⟨_, rfl⟩, .inl ⟨pre, HP.out, hJr⟩⟩

theorem stretches_stopsO (F : Fence) (n : Nat) (h26 : F.fn 26) (hro : F.round = none) (hn : 1 ≤ n) (Bs b off len cap : Nat) (l : List Mt) (own : Nat → Obj → Prop) (hch : Changes l) (hlen : l.length = len) (w : World)
    (hoW : ∀ k cs, ¬ own k (.cells cs 45 (0, 0))) (c : Array Value) (tb : TypeId) (fr : Nat × Nat) (hb : w.heap[b]? = some (.cells c tb fr)) (hBs : w.heap[Bs]? = some (.cells #[.slice (some ⟨b, off, none⟩) len cap] 22 (0, 0))) (hM : Ms w (some ⟨b, off, none⟩) len b off l)
    (hoB : ¬ own Bs (.cells #[.slice (some ⟨b, off, none⟩) len cap] 22 (0, 0))) (hob : ¬ own b (.cells c tb fr)) :
    SeqStopsK F n Try.prog 26 #[.pointer (some ⟨Bs, 0, none⟩)] (fun x : Ix len => encS l x) (KpO own) (fun ys => firstK ys len) (fun pre => ∃ k, k ≤ len ∧ firstK pre k) len w := fun lp J Jx W hW hJ _ hY h0 => by
  have hbw := (Array.getElem?_eq_some_iff.1 hb).1
  exact stretches1_inO F n h26 hro hn lp Bs b off len cap l own hch hlen J Jx W hoW hJ hY c tb fr (blk_below hb hW hbw) (blk_below hBs hW (Array.getElem?_eq_some_iff.1 hBs).1) (hM.below hW hbw) hoB hob h0
end Go.Proofs.Ytkgimglkiniofaa
