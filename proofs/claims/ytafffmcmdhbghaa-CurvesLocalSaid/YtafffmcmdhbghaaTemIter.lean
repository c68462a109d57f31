/- The iterator over the parts of a map (layer 9). -/
import Derived.Test.YtafffmcmdhbghaaSeq
import Derived.Test.YtafffmcmdhbghaaTemPos
namespace Go.Proofs.Ytafffmcmdhbghaa
open Go.RowKit Go.Shelf

attribute [local go_sem] Oper.semAt_some

abbrev Ix (n : Nat) := { k : Nat // k < n }
def encS (l : List Tp) {n : Nat} (x : Ix n) : Array Value := #[.int .i64 (posT l x.1), encP (nthT l x.1) (nthT l (x.1 + 1))]
/-- The first k indices. -/
def firstK {n : Nat} (pre : List (Ix n)) (k : Nat) : Prop := pre.map (·.1) = List.range k

theorem blk_new2 (w : World) (o o2 : Obj) : ((w.alloc o).alloc o2).heap[w.heap.size + 1]? = some o2 := by
  have := blk_new (w.alloc o) o2
  rwa [World.size_alloc] at this

set_option maxRecDepth 100000 in
set_option maxHeartbeats 4000000 in
theorem parts1_in (n : Nat) (hn : 1 ≤ n) (lp Bs b off len cap : Nat) (l : List Tp) (own : Nat → Prop) (hch : Map l) (hlen : l.length = len)
    (hoB : ¬ own Bs) (hob : ¬ own b) (J Jx : List (Ix len) → World → Prop)
    (W : World) (hoW : ∀ k, W.heap.size ≤ k → ¬ own k) (hJ : AbidesFrom W.heap.size J)
    (hY : ∀ pre x W1, J pre W1 → pre.length < len → YieldAt Fence.wide (n - 1) Try.prog lp (encS l x) W1 fun e W' =>
      (e = .returned (.bool true) ∧ J (pre ++ [x]) W' ∧ KpEx own W1 W') ∨ (e = .returned (.bool false) ∧ Jx (pre ++ [x]) W'))
    (c : Array Value) (tb : TypeId) (fr : Nat × Nat) (hb : W.heap[b]? = some (.cells c tb fr)) (hBs : W.heap[Bs]? = some (.cells #[.slice (some ⟨b, off, none⟩) len cap] 35 (0, 0))) (hM : Ts W (some ⟨b, off, none⟩) len b off l) (h0 : J [] W) :
    CallsIn Fence.wide n Try.prog 55 #[.func (.yield lp) #[] #[], .pointer (some ⟨Bs, 0, none⟩)] W fun e W' => (∃ v, e = .returned v) ∧
      ((∃ ys, firstK ys len ∧ J ys W') ∨ (∃ pre, (∃ k, k ≤ len ∧ firstK pre k) ∧ Jx pre W')) := by
  refine callsIn_of_wp Try.func55 rfl trivial ?_ rfl
  simp only [Try.ntmps55, List.size_toArray, List.length_cons, List.length_nil, Nat.reduceAdd, Nat.reduceSub, Array.replicate_succ, Array.replicate_zero, List.push_toArray, List.append_toArray, List.nil_append, List.cons_append]
  have cB := blk_cell hBs 0
  simp at cB
  gi_wp2
  gi_loopw [3, 9] (fun t i wr => ∃ (k : Nat) (pre : List (Ix len)), k < len ∧ i = .int .i64 k ∧ t = .int .i64 (posT l k) ∧ firstK pre k ∧ J pre wr ∧ KpEx own W wr) (fun _ i _ => len - (intOf i).toNat)
  case atStart => exact ⟨0, [], by rw [← hlen]; exact hch.1, rfl, rfl, rfl, h0, KpEx.refl _ _⟩
  case round =>
    obtain ⟨k, pre, hlt, rfl, rfl, hpre, hJr, hKr⟩ := hrel
    have kB := hKr.same _ _ hBs rfl hoB
    have kb := hKr.same _ _ hb rfl hob
    have cB := blk_cell kB 0
    simp at cB
    have hcell : ∀ o, wr.cell? ⟨b, o, none⟩ = W.cell? ⟨b, o, none⟩ := fun o => by rw [blk_cell kb o, blk_cell hb o]
    have HC := Lib.hid hcell; clear hcell
    have hbr : b < wr.heap.size := (Array.getElem?_eq_some_iff.1 kb).1
    have hBr : Bs < wr.heap.size := (Array.getElem?_eq_some_iff.1 kB).1
    have hk64 : len ≤ 64 := by rw [← hlen]; exact hch.2.1
    have HP := Lib.hid hpre; clear hpre kB kb
    obtain ⟨c0, c1, c2, c3⟩ := hM.2.2 k hlt
    rw [← HC.out] at c0 c1 c2 c3
    have hm := (hch.2.2.2.2 k (by omega)).1
    have tk := posT_bd hch k (by omega)
    have HL := Lib.hid hlen; have HCH := Lib.hid hch; have HM := Lib.hid hM; clear hch hM hlen
    obtain ⟨m1, m2, m3, m4, m5, m6⟩ := hm
    have hP : pre.length = k := by have := congrArg List.length HP.out; simpa using this
    have hsz := hKr.size
    have E : encS l (⟨k, hlt⟩ : Ix len) = #[.int .i64 (posT l k), encP (nthT l k) (nthT l (k + 1))] := rfl
    by_cases hlast : k + 1 < len
    · obtain ⟨d0, d1, d2, d3⟩ := HM.out.2.2 (k + 1) hlast
      rw [← HC.out] at d0 d1 d2 d3
      have pa := prt_all HCH.out (k := k) (by rw [HL.out]; exact hlast)
      have tn : posT l (k + 1) = posT l k + prt (nthT l k) (nthT l (k + 1)) ((nthT l (k + 1)).1 - (nthT l k).1) := rfl
      have hok := map_ok HCH.out (k := k) (by rw [HL.out]; exact hlt)
      have hlt2 := map_lt HCH.out (k := k) (by rw [HL.out]; exact hlast)
      have hm2 := (HCH.out.2.2.2.2 (k + 1) (by rw [HL.out]; omega)).1.2.1
      generalize hx : nthT l k = x at *
      obtain ⟨T, N, D, R⟩ := x
      generalize hz : nthT l (k + 1) = z at *
      obtain ⟨T', N', D', R'⟩ := z
      dsimp only at *
      unfold encP at E
      dsimp only at E
      obtain ⟨wX, hwX⟩ : ∃ wX, wX = (wr.alloc (.cells #[.int .i64 T, .int .i64 N, .int .i64 D, .bool R] 49)).alloc (.cells #[.int .i64 T, .int .i64 N, .int .i64 D, .bool R, .int .i64 T', .int .i64 N', .int .i64 D', .bool R'] 78) := ⟨_, rfl⟩
      have hBX : Below wr.heap.size wr wX := by rw [hwX]; exact ((Below.refl _ wr).alloc (Nat.le_refl _) _).alloc (by simp) _
      have hkX : wX.heap[wr.heap.size + 1]? = some (.cells #[.int .i64 T, .int .i64 N, .int .i64 D, .bool R, .int .i64 T', .int .i64 N', .int .i64 D', .bool R'] 78 (0, 0)) := by
        rw [hwX]; exact blk_new2 _ _ _
      have hkY : wX.heap[wr.heap.size]? = some (.cells #[.int .i64 T, .int .i64 N, .int .i64 D, .bool R] 49 (0, 0)) := by
        rw [hwX]; exact blk_alloc (blk_new _ _) _
      have hBX2 : wX.heap[Bs]? = some (.cells #[.slice (some ⟨b, off, none⟩) len cap] 35 (0, 0)) := blk_below (hKr.same _ _ hBs rfl hoB) hBX hBr
      obtain ⟨fn, tmps, assign, bdy, hy, hR⟩ := hY pre ⟨k, hlt⟩ wX (abides_below hJ hJr hBX) (by omega)
      rw [E, hwX] at hy
      rw [hwX] at hR
      have TN := Lib.hid tn; have HX := Lib.hid (show _ ∧ _ ∧ _ from ⟨hx, hz, hok⟩); have HPP := Lib.hid hP; clear tn hx hz E hP hok
      gi_wp2
      refine hR.mono ?_
      rw [← hwX]
      have HWX := Lib.hid hwX; clear hwX hy hR
      rintro e W3 (⟨rfl, hJ3, hk3⟩ | ⟨rfl, hJx3⟩)
      · have k3 := hk3.same _ _ hkX rfl (hoW _ (by omega))
        have k4 := hk3.same _ _ hkY rfl (hoW _ (by omega))
        have k5 := hk3.same _ _ hBX2 rfl hoB
        have s0 := blk_cell k3 0; have s1 := blk_cell k3 1; have s2 := blk_cell k3 2; have s3 := blk_cell k3 3; have s4 := blk_cell k3 4; have s5 := blk_cell k3 5; have s6 := blk_cell k3 6; have s7 := blk_cell k3 7
        have r0 := blk_cell k4 0
        have q0 := blk_cell k5 0
        simp at s0 s1 s2 s3 s4 s5 s6 s7 r0 q0
        have u1 : IntKind.i64.wrap (T' - T) = T' - T := wrap_id (by omega)
        have ne : ¬ ((k : Int) + 1 = (len : Int)) := by omega
        clear k3 k4 k5 hkX hkY hBX2
        gi_wp2_with fail
        refine ⟨trivial, ?_⟩
        refine (callsIn_wide.2 (samples_any (T, N, D, R) (T', N', D', R') (T' - T) _ HX.out.2.2 (by omega) (by omega))).mono ?_
        rintro e W4 ⟨⟨v, hv, rfl⟩, hb4⟩
        replace hv := hv (fun _ => Int.le_refl _)
        rw [← hv] at pa
        have HV := Lib.hid hv; clear hv
        have HK := Lib.hid (show _ ∧ _ ∧ _ from ⟨hJ3, hk3, hb4⟩)
        clear hJ3 hk3 hb4 s0 s1 s2 s3 s4 s5 s6 s7 r0 q0
        gi_wp2
        go_roundw
        case rel => exact ⟨k + 1, pre ++ [⟨k, hlt⟩], hlast, by go_num, by rw [TN.out, HV.out], by unfold firstK; rw [List.map_append, HP.out, List.range_succ]; rfl, abides_below hJ HK.out.1 HK.out.2.2, kpEx_t (kpEx_t (kpEx_t hKr (KpEx.below own hBX)) HK.out.2.1) (KpEx.below own HK.out.2.2)⟩
        case measure => simp [intOf]; omega
      · gi_wp2
        refine bodyPost_ret (results_none rfl _ _ _) rfl ?_
        exact ⟨⟨_, rfl⟩, .inr ⟨pre ++ [⟨k, hlt⟩], ⟨k + 1, by omega, by unfold firstK; rw [List.map_append, HP.out, List.range_succ]; rfl⟩, hJx3⟩⟩
    · have hz : nthT l (k + 1) = (0, 0, 0, false) := by
        unfold nthT
        rw [List.getD_eq_getElem?_getD, List.getElem?_eq_none (by rw [HL.out]; omega)]
        rfl
      rw [hz] at E
      generalize hx : nthT l k = x at *
      obtain ⟨T, N, D, R⟩ := x
      dsimp only at *
      unfold encP at E
      dsimp only at E
      obtain ⟨wX, hwX⟩ : ∃ wX, wX = (wr.alloc (.cells #[.int .i64 T, .int .i64 N, .int .i64 D, .bool R] 49)).alloc (.cells #[.int .i64 T, .int .i64 N, .int .i64 D, .bool R, .int .i64 0, .int .i64 0, .int .i64 0, .bool false] 78) := ⟨_, rfl⟩
      have hBX : Below wr.heap.size wr wX := by rw [hwX]; exact ((Below.refl _ wr).alloc (Nat.le_refl _) _).alloc (by simp) _
      have hBX2 : wX.heap[Bs]? = some (.cells #[.slice (some ⟨b, off, none⟩) len cap] 35 (0, 0)) := blk_below (hKr.same _ _ hBs rfl hoB) hBX hBr
      obtain ⟨fn, tmps, assign, bdy, hy, hR⟩ := hY pre ⟨k, hlt⟩ wX (abides_below hJ hJr hBX) (by omega)
      rw [E, hwX] at hy
      rw [hwX] at hR
      have HX := Lib.hid (show _ ∧ _ from ⟨hx, hz⟩); have HPP := Lib.hid hP; clear hx hz E hP
      gi_wp2
      refine hR.mono ?_
      rw [← hwX]
      have HWX := Lib.hid hwX; clear hwX hy hR
      rintro e W3 (⟨rfl, hJ3, hk3⟩ | ⟨rfl, hJx3⟩)
      · have k5 := hk3.same _ _ hBX2 rfl hoB
        have q0 := blk_cell k5 0
        simp at q0
        have HFK : firstK (pre ++ [⟨k, hlt⟩]) len := by
          have h1 : firstK (pre ++ [⟨k, hlt⟩]) (k + 1) := by unfold firstK; rw [List.map_append, HP.out, List.range_succ]; rfl
          have h2 : k + 1 = len := by omega
          rw [h2] at h1; exact h1
        have ne : (k : Int) + 1 = (len : Int) := by omega
        clear k5 hBX2
        gi_wp2
        refine bodyPost_ret (results_none rfl _ _ _) rfl ?_
        exact ⟨⟨_, rfl⟩, .inl ⟨pre ++ [⟨k, hlt⟩], HFK, hJ3⟩⟩
      · gi_wp2
        refine bodyPost_ret (results_none rfl _ _ _) rfl ?_
        exact ⟨⟨_, rfl⟩, .inr ⟨pre ++ [⟨k, hlt⟩], ⟨k + 1, by omega, by unfold firstK; rw [List.map_append, HP.out, List.range_succ]; rfl⟩, hJx3⟩⟩
end Go.Proofs.Ytafffmcmdhbghaa
