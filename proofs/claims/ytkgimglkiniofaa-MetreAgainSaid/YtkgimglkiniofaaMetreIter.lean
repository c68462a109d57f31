/- The iterator over the stretches of a metre (layer 10). -/
import Derived.Test.YtkgimglkiniofaaSeq
import Derived.Test.YtkgimglkiniofaaMetreCheck
namespace Go.Proofs.Ytkgimglkiniofaa
open Go.RowKit Go.Shelf

attribute [local go_sem] Oper.semAt_some

/-- The bar up to which change k holds; the length of its bars; the tick at which it begins. -/
def endOf (l : List Mt) (k : Nat) : Int := if k + 1 < l.length then (nthM l (k + 1)).1 else 1048577
def lenOf (l : List Mt) (k : Nat) : Int := (nthM l k).2.1 * (nthM l k).2.2
def tickOf (l : List Mt) : Nat → Int
  | 0 => 0
  | k + 1 => tickOf l k + (endOf l k - (nthM l k).1) * lenOf l k
abbrev Ix (n : Nat) := { k : Nat // k < n }
def encS (l : List Mt) {n : Nat} (x : Ix n) : Array Value :=
  #[.int .i64 (tickOf l x.1), .agg #[.int .i64 (nthM l x.1).1, .int .i64 (nthM l x.1).2.1, .int .i64 (nthM l x.1).2.2, .int .i64 (endOf l x.1), .int .i64 (lenOf l x.1)]]
/-- The first k indices. -/
def firstK {n : Nat} (pre : List (Ix n)) (k : Nat) : Prop := pre.map (·.1) = List.range k

theorem lenOf_bd {l : List Mt} {k : Nat} (h : okM (nthM l k)) : 1 ≤ lenOf l k ∧ lenOf l k ≤ 2097152 := by
  obtain ⟨_, _, h3, h4, h5, h6⟩ := h
  unfold lenOf
  have m1 : (nthM l k).2.1 * (nthM l k).2.2 ≤ 32 * (nthM l k).2.2 := Int.mul_le_mul_of_nonneg_right h4 (by omega)
  have m2 : 1 * (nthM l k).2.2 ≤ (nthM l k).2.1 * (nthM l k).2.2 := Int.mul_le_mul_of_nonneg_right h3 (by omega)
  omega
theorem endOf_bd {l : List Mt} (h : Changes l) {k : Nat} (hk : k < l.length) : (nthM l k).1 < endOf l k ∧ endOf l k ≤ 1048577 := by
  obtain ⟨_, _, _, ho⟩ := h
  unfold endOf
  split
  · rename_i h1
    have a := (ho (k + 1) h1).2 (by omega)
    have b := (ho (k + 1) h1).1.2.1
    rw [Nat.add_sub_cancel] at a
    omega
  · have := (ho k hk).1.2.1; omega
theorem tickOf_bd {l : List Mt} (h : Changes l) : ∀ k, k ≤ l.length → 0 ≤ tickOf l k ∧ tickOf l k ≤ 2199025352704 * k := by
  intro k
  induction k with
  | zero => intro _; simp [tickOf]
  | succ k ih =>
    intro hk
    obtain ⟨i1, i2⟩ := ih (by omega)
    have e := endOf_bd h (show k < l.length by omega)
    have ln := lenOf_bd (h.2.2.2 k (by omega)).1
    have b0 := (h.2.2.2 k (by omega)).1.1
    have m0 : 0 ≤ (endOf l k - (nthM l k).1) * lenOf l k := Int.mul_nonneg (by omega) (by omega)
    have m1 : (endOf l k - (nthM l k).1) * lenOf l k ≤ 1048577 * lenOf l k := Int.mul_le_mul_of_nonneg_right (by omega) (by omega)
    simp only [tickOf]
    omega

set_option maxRecDepth 100000 in
set_option maxHeartbeats 4000000 in
theorem stretches1_in (F : Fence) (n : Nat) (h26 : F.fn 26) (hro : F.round = none) (hn : 1 ≤ n) (lp Bs b off len cap : Nat) (l : List Mt) (own : Nat → Prop) (hch : Changes l) (hlen : l.length = len)
    (hoB : ¬ own Bs) (hob : ¬ own b) (J Jx : List (Ix len) → World → Prop)
    (W : World) (hoW : ∀ k, W.heap.size ≤ k → ¬ own k) (hJ : AbidesFrom W.heap.size J)
    (hY : ∀ pre x W1, J pre W1 → pre.length < len → YieldAt F (n - 1) Try.prog lp (encS l x) W1 fun e W' =>
      (e = .returned (.bool true) ∧ J (pre ++ [x]) W' ∧ KpEx own W1 W') ∨ (e = .returned (.bool false) ∧ Jx (pre ++ [x]) W'))
    (c : Array Value) (tb : TypeId) (fr : Nat × Nat) (hb : W.heap[b]? = some (.cells c tb fr)) (hBs : W.heap[Bs]? = some (.cells #[.slice (some ⟨b, off, none⟩) len cap] 22 (0, 0))) (hM : Ms W (some ⟨b, off, none⟩) len b off l) (h0 : J [] W) :
    CallsIn F n Try.prog 26 #[.func (.yield lp) #[] #[], .pointer (some ⟨Bs, 0, none⟩)] W fun e W' => (∃ v, e = .returned v) ∧
      ((∃ ys, firstK ys len ∧ J ys W') ∨ (∃ pre, (∃ k, k ≤ len ∧ firstK pre k) ∧ Jx pre W')) := by
  refine callsIn_of_wp Try.func26 rfl h26 ?_ hro
  simp only [Try.ntmps26, List.size_toArray, List.length_cons, List.length_nil, Nat.reduceAdd, Nat.reduceSub, Array.replicate_succ, Array.replicate_zero, List.push_toArray, List.append_toArray, List.nil_append, List.cons_append]
  have cB := blk_cell hBs 0
  simp at cB
  gi_wp2
  gi_loopw [3, 9] (fun t i wr => ∃ (k : Nat) (pre : List (Ix len)), k ≤ len ∧ i = .int .i64 k ∧ t = .int .i64 (tickOf l k) ∧ firstK pre k ∧ J pre wr ∧ KpEx own W wr) (fun _ i _ => len - (intOf i).toNat)
  case atStart => exact ⟨0, [], Nat.zero_le _, rfl, rfl, rfl, h0, KpEx.refl _ _⟩
  case round =>
    obtain ⟨k, pre, hk, rfl, rfl, hpre, hJr, hKr⟩ := hrel
    have kB := hKr.same _ _ hBs rfl hoB
    have kb := hKr.same _ _ hb rfl hob
    have cB := blk_cell kB 0
    simp at cB
    have hcell : ∀ o, wr.cell? ⟨b, o, none⟩ = W.cell? ⟨b, o, none⟩ := fun o => by rw [blk_cell kb o, blk_cell hb o]
    have HC := Lib.hid hcell; clear hcell
    have hbr : b < wr.heap.size := (Array.getElem?_eq_some_iff.1 kb).1
    have hBr : Bs < wr.heap.size := (Array.getElem?_eq_some_iff.1 kB).1
    have hk64 : len ≤ 64 := by rw [← hlen]; exact hch.2.1
    have HP := Lib.hid hpre; clear hpre kB kb
    by_cases hlt : k < len
    · obtain ⟨c0, c1, c2⟩ := hM.2.2 k hlt
      rw [← HC.out] at c0 c1 c2
      have hm := (hch.2.2.2 k (by omega)).1
      have ln := lenOf_bd hm
      have en := endOf_bd hch (show k < l.length by omega)
      have tk := tickOf_bd hch k (by omega)
      have HL := Lib.hid hlen; have HCH := Lib.hid hch; have HM := Lib.hid hM; clear hch hM hlen
      obtain ⟨m1, m2, m3, m4, m5, m6⟩ := hm
      have eln : lenOf l k = (nthM l k).2.1 * (nthM l k).2.2 := rfl
      have tn : tickOf l (k + 1) = tickOf l k + (endOf l k - (nthM l k).1) * lenOf l k := rfl
      have tk1 := tickOf_bd HCH.out (k + 1) (by rw [HL.out]; omega)
      have pm0 : 0 ≤ (endOf l k - (nthM l k).1) * lenOf l k := Int.mul_nonneg (by omega) (by omega)
      have pm1 : (endOf l k - (nthM l k).1) * lenOf l k ≤ 1048577 * lenOf l k := Int.mul_le_mul_of_nonneg_right (by omega) (by omega)
      have E : encS l (⟨k, hlt⟩ : Ix len) = #[.int .i64 (tickOf l k), .agg #[.int .i64 (nthM l k).1, .int .i64 (nthM l k).2.1, .int .i64 (nthM l k).2.2, .int .i64 (endOf l k), .int .i64 (lenOf l k)]] := rfl
      have ee : endOf l k = if k + 1 < len then (nthM l (k + 1)).1 else 1048577 := by unfold endOf; rw [HL.out]
      rw [eln] at ln tn pm0 pm1 E
      clear eln
      have hP : pre.length = k := by have := congrArg List.length HP.out; simpa using this
      have hsz := hKr.size
      by_cases hlast : k + 1 < len
      · obtain ⟨d0, _, _⟩ := HM.out.2.2 (k + 1) hlast
        rw [← HC.out] at d0
        rw [if_pos hlast] at ee
        rw [ee] at E en tn pm0 pm1
        generalize hx : nthM l k = x at *
        obtain ⟨B0, E0, U0⟩ := x
        generalize hz : (nthM l (k + 1)).1 = z at *
        dsimp only at *
        obtain ⟨wX, hwX⟩ : ∃ wX, wX = (wr.alloc (.cells #[.int .i64 B0, .int .i64 E0, .int .i64 U0] 38)).alloc (.cells #[.int .i64 B0, .int .i64 E0, .int .i64 U0, .int .i64 z, .int .i64 (E0 * U0)] 45) := ⟨_, rfl⟩
        have hBX : Below wr.heap.size wr wX := by rw [hwX]; exact ((Below.refl _ wr).alloc (Nat.le_refl _) _).alloc (by simp) _
        have hkX : wX.heap[wr.heap.size + 1]? = some (.cells #[.int .i64 B0, .int .i64 E0, .int .i64 U0, .int .i64 z, .int .i64 (E0 * U0)] 45 (0, 0)) := by
          rw [hwX]; have := blk_new (wr.alloc (.cells #[.int .i64 B0, .int .i64 E0, .int .i64 U0] 38)) (.cells #[.int .i64 B0, .int .i64 E0, .int .i64 U0, .int .i64 z, .int .i64 (E0 * U0)] 45); rwa [World.size_alloc] at this
        obtain ⟨fn, tmps, assign, bdy, hy, hR⟩ := hY pre ⟨k, hlt⟩ wX (abides_below hJ hJr hBX) (by omega)
        rw [E, hwX] at hy
        rw [hwX] at hR
        have TN := Lib.hid tn; have HX := Lib.hid hx; have EE := Lib.hid ee; have HPP := Lib.hid hP; clear tn hx ee E hP
        gi_wp2
        refine hR.mono ?_
        rw [← hwX]
        have HWX := Lib.hid hwX; clear hwX hy hR
        rintro e W3 (⟨rfl, hJ3, hk3⟩ | ⟨rfl, hJx3⟩)
        · have k3 := hk3.same _ _ hkX rfl (hoW _ (by omega))
          have s0 := blk_cell k3 0; have s3 := blk_cell k3 3; have s4 := blk_cell k3 4
          simp at s0 s3 s4
          clear k3
          gi_wp2
          go_roundw
          case rel => exact ⟨k + 1, pre ++ [⟨k, hlt⟩], by omega, by go_num, by rw [TN.out], by unfold firstK; rw [List.map_append, HP.out, List.range_succ]; rfl, hJ3, kpEx_t (kpEx_t hKr (KpEx.below own hBX)) hk3⟩
          case measure => simp [intOf]; omega
        · gi_wp2
          refine bodyPost_ret (results_none rfl _ _ _) rfl ?_
          exact ⟨⟨_, rfl⟩, .inr ⟨pre ++ [⟨k, hlt⟩], ⟨k + 1, by omega, by unfold firstK; rw [List.map_append, HP.out, List.range_succ]; rfl⟩, hJx3⟩⟩
      · rw [if_neg hlast] at ee
        rw [ee] at E en tn pm0 pm1
        generalize hx : nthM l k = x at *
        obtain ⟨B0, E0, U0⟩ := x
        dsimp only at *
        obtain ⟨wX, hwX⟩ : ∃ wX, wX = (wr.alloc (.cells #[.int .i64 B0, .int .i64 E0, .int .i64 U0] 38)).alloc (.cells #[.int .i64 B0, .int .i64 E0, .int .i64 U0, .int .i64 1048577, .int .i64 (E0 * U0)] 45) := ⟨_, rfl⟩
        have hBX : Below wr.heap.size wr wX := by rw [hwX]; exact ((Below.refl _ wr).alloc (Nat.le_refl _) _).alloc (by simp) _
        have hkX : wX.heap[wr.heap.size + 1]? = some (.cells #[.int .i64 B0, .int .i64 E0, .int .i64 U0, .int .i64 1048577, .int .i64 (E0 * U0)] 45 (0, 0)) := by
          rw [hwX]; have := blk_new (wr.alloc (.cells #[.int .i64 B0, .int .i64 E0, .int .i64 U0] 38)) (.cells #[.int .i64 B0, .int .i64 E0, .int .i64 U0, .int .i64 1048577, .int .i64 (E0 * U0)] 45); rwa [World.size_alloc] at this
        obtain ⟨fn, tmps, assign, bdy, hy, hR⟩ := hY pre ⟨k, hlt⟩ wX (abides_below hJ hJr hBX) (by omega)
        rw [E, hwX] at hy
        rw [hwX] at hR
        have TN := Lib.hid tn; have HX := Lib.hid hx; have EE := Lib.hid ee; have HPP := Lib.hid hP; clear tn hx ee E hP
        gi_wp2
        refine hR.mono ?_
        rw [← hwX]
        have HWX := Lib.hid hwX; clear hwX hy hR
        rintro e W3 (⟨rfl, hJ3, hk3⟩ | ⟨rfl, hJx3⟩)
        · have k3 := hk3.same _ _ hkX rfl (hoW _ (by omega))
          have s0 := blk_cell k3 0; have s3 := blk_cell k3 3; have s4 := blk_cell k3 4
          simp at s0 s3 s4
          clear k3
          gi_wp2
          go_roundw
          case rel => exact ⟨k + 1, pre ++ [⟨k, hlt⟩], by omega, by go_num, by rw [TN.out], by unfold firstK; rw [List.map_append, HP.out, List.range_succ]; rfl, hJ3, kpEx_t (kpEx_t hKr (KpEx.below own hBX)) hk3⟩
          case measure => simp [intOf]; omega
        · gi_wp2
          refine bodyPost_ret (results_none rfl _ _ _) rfl ?_
          exact ⟨⟨_, rfl⟩, .inr ⟨pre ++ [⟨k, hlt⟩], ⟨k + 1, by omega, by unfold firstK; rw [List.map_append, HP.out, List.range_succ]; rfl⟩, hJx3⟩⟩
    · obtain rfl : k = len := by omega
      gi_wp2
      go_end0
      exact ⟨⟨_, rfl⟩, .inl ⟨pre, HP.out, hJr⟩⟩
end Go.Proofs.Ytkgimglkiniofaa
