/- New (layer 4). -/
import Derived.Test.YtbimmahlcceadaaDskDbl
import Derived.Test.YtbimmahlcceadaaDskStop
import Derived.Test.YtbimmahlcceadaaHeld
namespace Go.Proofs.Ytbimmahlcceadaa
open Go.ChangeShapes Go.WideShapes Go.ChangeAt Go.RowKit
theorem SlR.upd {w w' : World} {s : Sl} {b : Nat} {L : List Sl} {t : TypeId} (h : SlR w s) (u : Upd1 b w w') (hb : w.heap[b]? = some (.cells (cellsOf L) t (0, 0))) : SlR w' s := by
  obtain ⟨b', off, hR, h2⟩ := h
  refine ⟨b', off, ⟨hR.len, hR.adr, fun hn => Nat.lt_of_lt_of_le (hR.old hn) u.size, fun i hi => ?_⟩, h2⟩
  have c := hR.cel i hi
  by_cases e : b' = b
  · subst e
    rw [blk_cell hb] at c
    simp [cellsOf, slV] at c
  · have ho := hR.old (by omega)
    unfold World.cell? at c ⊢
    rwa [u.far b' ho e]
theorem SlR.updC {w w' : World} {s : Sl} {b : Nat} {cs : Array Value} {t : TypeId} (h : SlR w s) (u : Upd1 b w w') (hb : w.heap[b]? = some (.cells cs t (0, 0))) (hne : ∀ (j : Nat) (x : Int), cs[j]? ≠ some (Value.int .u8 x)) : SlR w' s := by
  obtain ⟨b', off, hR, h2⟩ := h
  refine ⟨b', off, ⟨hR.len, hR.adr, fun hn => Nat.lt_of_lt_of_le (hR.old hn) u.size, fun i hi => ?_⟩, h2⟩
  have c := hR.cel i hi
  by_cases e : b' = b
  · subst e
    rw [blk_cell hb] at c
    exact absurd c (hne _ _)
  · have ho := hR.old (by omega)
    unfold World.cell? at c ⊢
    rwa [u.far b' ho e]
theorem SlG.upd {w w' : World} {B0 : Nat} {s : Sl} {b : Nat} {L : List Sl} {t : TypeId} (h : SlG w B0 s) (u : Upd1 b w w') (hb : w.heap[b]? = some (.cells (cellsOf L) t (0, 0))) : SlG w' B0 s := by
  obtain ⟨b', off, h0, hR, h2⟩ := h
  refine ⟨b', off, h0, ⟨hR.len, hR.adr, fun hn => Nat.lt_of_lt_of_le (hR.old hn) u.size, fun i hi => ?_⟩, h2⟩
  have c := hR.cel i hi
  by_cases e : b' = b
  · subst e
    rw [blk_cell hb] at c
    simp [cellsOf, slV] at c
  · have ho := hR.old (by omega)
    unfold World.cell? at c ⊢
    rwa [u.far b' ho e]
theorem SlG.updC {w w' : World} {B0 : Nat} {s : Sl} {b : Nat} {cs : Array Value} {t : TypeId} (h : SlG w B0 s) (u : Upd1 b w w') (hb : w.heap[b]? = some (.cells cs t (0, 0))) (hne : ∀ (j : Nat) (x : Int), cs[j]? ≠ some (Value.int .u8 x)) : SlG w' B0 s := by
  obtain ⟨b', off, h0, hR, h2⟩ := h
  refine ⟨b', off, h0, ⟨hR.len, hR.adr, fun hn => Nat.lt_of_lt_of_le (hR.old hn) u.size, fun i hi => ?_⟩, h2⟩
  have c := hR.cel i hi
  by_cases e : b' = b
  · subst e
    rw [blk_cell hb] at c
    exact absurd c (hne _ _)
  · have ho := hR.old (by omega)
    unfold World.cell? at c ⊢
    rwa [u.far b' ho e]
theorem info_sl : (Try.prog.info? 35).map (fun i => (i.zero, i.size, i.bytes)) = some (some (.slice none 0 0), 1, 24) := by kernel_rfl
theorem info_partsS {v : Value} {a b : Nat} {t : TypeId} (h : (Try.prog.info? t).map (fun i => (i.zero, i.size, i.bytes)) = some (some v, a, b)) : ∃ i, Try.prog.info? t = some i ∧ i.zero = some v ∧ i.size = a ∧ i.bytes = b := by
  cases hq : Try.prog.info? t with
  | none => rw [hq] at h; cases h
  | some i =>
    rw [hq] at h
    simp at h
    exact ⟨i, rfl, h.1, h.2.1, h.2.2⟩
def nilS : Sl := (none, 0, [])
theorem made_sl (m : Nat) : madeCells (Value.slice none 0 0).cells (m * 1) = cellsOf (List.replicate m nilS) := by
  rw [Nat.mul_one]
  apply Array.ext_getElem?
  intro p
  by_cases hp : p < m
  · simp [madeCells, Value.cells, hp, Nat.mod_one, cellsOf, slV, nilS]
  · simp [madeCells, Value.cells, hp, cellsOf]
theorem run_makeSl (m : Nat) (hm : m ≤ 4096) (w : World) : (Instr.makeSlice 22 (.int .i64 (m : Int)) (.int .i64 (m : Int))).run Try.prog w = .ok (.slice (some ⟨w.heap.size, 0, none⟩) m m) (w.alloc (.cells (cellsOf (List.replicate m nilS)) 35)) := by
  obtain ⟨i0, hi, hz0, hz1, hz2⟩ := info_partsS info_sl
  have := run_make (P := Try.prog) w 22 35 i0 _ Try.underlying22 hi hz0 .i64 .i64 (m : Int) (m : Int) (by omega) (by omega) (by rw [hz2]; omega) (by omega)
  rw [hz1] at this
  simp only [Int.toNat_natCast, made_sl] at this
  exact this
/-- Sectors that are all zeros, so far. -/
def Zer (w : World) (B : Nat) (L : List Sl) (k : Nat) : Prop := ∀ i, i < k → SlG w B (nS L i) ∧ (nS L i).2.2 = z128
theorem nS_set {L : List Sl} {k : Nat} {s : Sl} (h : k < L.length) : nS (L.set k s) k = s := by simp [nS, List.getD_eq_getElem?_getD, h]
theorem nS_set_ne {L : List Sl} {k i : Nat} {s : Sl} (h : i ≠ k) : nS (L.set k s) i = nS L i := by simp [nS, List.getD_eq_getElem?_getD, Ne.symm h]
/-- What New answers. -/
def NewR (n : Int) (B : Nat) (w' : World) (e : Ending) : Prop :=
  ((n < 1 ∨ 4096 < n) ∧ e = .returned (.tuple #[.agg #[.slice none 0 0, .slice none 0 0, .int .i64 0, .bool false], .int .i64 1])) ∨
  (∃ (m b : Nat) (L : List Sl), n = m ∧ 1 ≤ m ∧ m ≤ 4096 ∧ B ≤ b ∧ e = .returned (.tuple #[.agg #[.slice (some ⟨b, 0, none⟩) m m, .slice none 0 0, .int .i64 (-1), .bool false], .int .i64 0]) ∧ L.length = m ∧ w'.heap[b]? = some (.cells (cellsOf L) 35 (0, 0)) ∧ Zer w' B L m)
set_option maxRecDepth 100000 in
set_option maxHeartbeats 4000000 in
theorem new_any (n : Int) (w : World) :
    Calls Try.prog 12 #[.int .i64 n] w fun e w' => NewR n w.heap.size w' e ∧ Below w.heap.size w w' := by
  go_enter Try.func12, Try.ntmps12
  go_upto_region 1 with fail
  have h1 := blk_new w (.cells #[.slice none 0 0, .slice none 0 0, .int .i64 0, .bool false] 25)
  have hB1 : Below w.heap.size w (w.alloc (.cells #[.slice none 0 0, .slice none 0 0, .int .i64 0, .bool false] 25)) := (Below.refl _ _).alloc (Nat.le_refl _) _
  have z0 : (w.alloc (.cells #[.slice none 0 0, .slice none 0 0, .int .i64 0, .bool false] 25)).heap.size = w.heap.size + 1 := by simp
  generalize w.alloc (.cells #[.slice none 0 0, .slice none 0 0, .int .i64 0, .bool false] 25) = W1 at *
  have x0 := blk_cell h1 0
  have x1 := blk_cell h1 1
  have x2 := blk_cell h1 2
  have x3 := blk_cell h1 3
  have f0 := blk_free h1 0
  have f1 := blk_free h1 1
  have f2 := blk_free h1 2
  have f3 := blk_free h1 3
  have HH := Lib.hid (show _ ∧ _ from ⟨h1, hB1⟩)
  clear h1 hB1
  by_cases c0 : n < 1
  · have HC := Lib.hid c0
    clear z0
    go_wp2
    refine bodyPost_ret (v := .tuple #[.agg #[.slice none 0 0, .slice none 0 0, .int .i64 0, .bool false], .int .i64 1]) ?_ rfl ⟨.inl ⟨.inl HC.out, rfl⟩, cell4_below (Nat.le_refl _) HH.out.2⟩
    exact results_dk_tmp Try.results12 _ _ w.heap.size 25 _ (0, 0) rfl (cell4_set HH.out.1) (by kernel_rfl) _ rfl
  by_cases c1 : 4096 < n
  · have HC := Lib.hid c1
    clear z0
    go_wp2
    refine bodyPost_ret (v := .tuple #[.agg #[.slice none 0 0, .slice none 0 0, .int .i64 0, .bool false], .int .i64 1]) ?_ rfl ⟨.inl ⟨.inr HC.out, rfl⟩, cell4_below (Nat.le_refl _) HH.out.2⟩
    exact results_dk_tmp Try.results12 _ _ w.heap.size 25 _ (0, 0) rfl (cell4_set HH.out.1) (by kernel_rfl) _ rfl
  obtain ⟨m, rfl⟩ := Int.eq_ofNat_of_zero_le (a := n) (by omega)
  have HM := Lib.hid (show 1 ≤ m ∧ m ≤ 4096 by omega)
  have km := fun w => run_makeSl m (by omega) w
  go_upto_region 4 with fail
  have hd := blk_alloc (cell4_set (u0 := .slice (some ⟨w.heap.size + 1, 0, none⟩) m m) (u1 := .slice none 0 0) (u2 := .int .i64 (-1)) (u3 := .bool false) HH.out.1) (.cells (cellsOf (List.replicate m nilS)) 35)
  have hs := blkZ (W := (((W1.setCell ⟨w.heap.size, 0, none⟩ (.slice (some ⟨w.heap.size + 1, 0, none⟩) m m)).setCell ⟨w.heap.size, 1, none⟩ (.slice none 0 0)).setCell ⟨w.heap.size, 2, none⟩ (.int .i64 (-1))).setCell ⟨w.heap.size, 3, none⟩ (.bool false)) (o := .cells (cellsOf (List.replicate m nilS)) 35) (k := w.heap.size + 1) (by simp [z0])
  have hB4 := (cell4_below (u0 := .slice (some ⟨w.heap.size + 1, 0, none⟩) m m) (u1 := .slice none 0 0) (u2 := .int .i64 (-1)) (u3 := .bool false) (Nat.le_refl _) HH.out.2).alloc (by simp [z0]) (.cells (cellsOf (List.replicate m nilS)) 35)
  generalize ((((W1.setCell ⟨w.heap.size, 0, none⟩ (.slice (some ⟨w.heap.size + 1, 0, none⟩) m m)).setCell ⟨w.heap.size, 1, none⟩ (.slice none 0 0)).setCell ⟨w.heap.size, 2, none⟩ (.int .i64 (-1))).setCell ⟨w.heap.size, 3, none⟩ (.bool false)).alloc (.cells (cellsOf (List.replicate m nilS)) 35) = W4 at *
  clear x0 x1 x2 x3 f0 f1 f2 f3 km
  have x0 := blk_cell hd 0
  have H4 := Lib.hid (show _ ∧ _ ∧ _ from ⟨hd, hs, hB4⟩)
  clear hd hs hB4
  go_wp2_with fail
  go_loopw [18] (fun v wr => ∃ k : Nat, k ≤ m ∧ v = .int .i64 k ∧ Hid (wr.heap[w.heap.size]? = some (.cells #[.slice (some ⟨w.heap.size + 1, 0, none⟩) m m, .slice none 0 0, .int .i64 (-1), .bool false] 25 (0, 0)) ∧ Below w.heap.size w wr ∧ ∃ L : List Sl, L.length = m ∧ wr.heap[w.heap.size + 1]? = some (.cells (cellsOf L) 35 (0, 0)) ∧ Zer wr w.heap.size L k)) (fun v _ => m - (intOf v).toNat)
  case atStart => exact ⟨0, Nat.zero_le _, rfl, Lib.hid ⟨H4.out.1, H4.out.2.2, _, List.length_replicate, H4.out.2.1, fun i hi => by omega⟩⟩
  case round =>
    obtain ⟨k, hk, rfl, HR⟩ := hrel
    by_cases hkm : k < m
    · have j1 : (k : Int) < (m : Int) := by omega
      have j2 : ¬ (k : Int) < 0 := by omega
      have HK := Lib.hid hkm
      have u1 : IntKind.i64.wrap ((k : Int) + 1) = ((k + 1 : Nat) : Int) := (wrap_id (by have := HM.out.2; omega)).trans (by omega)
      clear hkm hk
      go_wp2_with fail
      refine wp_region_from 0 3 (fun w' => w'.heap[w.heap.size]? = some (.cells #[.slice (some ⟨w.heap.size + 1, 0, none⟩) m m, .slice none 0 0, .int .i64 (-1), .bool false] 25 (0, 0))) (by kernel_rfl) (by kernel_rfl) (by decide) (by kernel_rfl) HR.out.1 ?_
      simp only [List.drop_zero, List.take_succ_cons, List.take_zero]
      refine wpHeld_cons (.pointer (some ⟨w.heap.size, 0, none⟩)) (by kernel_rfl) ?_ ?_
      · intro w' s
        try go_simp
      refine wpHeld_cons (.slice (some ⟨w.heap.size + 1, 0, none⟩) m m) (by kernel_rfl) ?_ ?_
      · intro w' s
        have y0 := blk_cell s 0
        simp at y0
        try go_simp
      refine wpHeld_cons (.int .i64 k) (by kernel_rfl) ?_ ?_
      · intro w' s
        try go_simp
      refine wpHeld_nil ?_
      go_simp
      refine wpAnyH_one (i := 3) (by kernel_rfl) rfl (by kernel_rfl) (fun K' hK' => ?_)
      go_simp
      rw [run_make128]
      go_simp
      obtain ⟨L, hL, hb, hz⟩ := HR.out.2.2
      have hd5 : (wr.alloc (.cells (bV z128) 5)).drew.heap[w.heap.size]? = _ := blk_alloc HR.out.1 (.cells (bV z128) 5)
      have hb5 : (wr.alloc (.cells (bV z128) 5)).drew.heap[w.heap.size + 1]? = _ := blk_alloc hb (.cells (bV z128) 5)
      have hn5 : (wr.alloc (.cells (bV z128) 5)).drew.heap[wr.heap.size]? = _ := blk_new wr (.cells (bV z128) 5)
      have hB5 := (HR.out.2.1.alloc HR.out.2.1.size (.cells (bV z128) 5)).drew
      have hz5 : Zer (wr.alloc (.cells (bV z128) 5)).drew w.heap.size L k := fun i hi => ⟨(hz i hi).1.below ((Below.refl _ wr).alloc (Nat.le_refl _) _).drew (Nat.le_refl _), (hz i hi).2⟩
      have hlo := HR.out.2.1.size
      generalize (wr.alloc (.cells (bV z128) 5)).drew = W5 at *
      have c5 := (blk_cell hb5 k).trans (cellsOf_get (by rw [hL]; exact HK.out))
      have f5 := blk_free hb5 k
      have H5 := Lib.hid (show _ ∧ _ ∧ _ ∧ _ ∧ _ ∧ _ from ⟨hd5, hb5, hn5, hB5, hz5, hL⟩)
      refine hK' _ _ H5.out.1 ?_
      clear hK' K' hd5 hb5 hn5 hB5 hz5 hL hb hz
      go_simp
      refine wpAnyH_one (i := 4) (by kernel_rfl) rfl (by kernel_rfl) (fun K' hK' => ?_)
      go_simp
      refine hK' _ _ H5.out.1 ?_
      clear hK' K'
      go_simp
      refine wpAnyH_one (i := 5) (by kernel_rfl) rfl (by kernel_rfl) (fun K' hK' => ?_)
      unfold slV at c5
      go_simp
      refine hK' _ _ ((Below.heap_setCell _ _ _ _ (show w.heap.size ≠ w.heap.size + 1 by omega)).trans H5.out.1) ?_
      clear hK' K'
      refine wpAnyH_done (by kernel_rfl) ?_ _
      refine NoPanic.normal ?_
      have hsv : slV (some ⟨wr.heap.size, 0, none⟩, 128, z128) = .slice (some ⟨wr.heap.size, 0, none⟩) 128 128 := by simp [slV, z128_len]
      have hlk : k < L.length := by rw [H5.out.2.2.2.2.2]; exact HK.out
      have hX : (W5.setCell ⟨w.heap.size + 1, k, none⟩ (.slice (some ⟨wr.heap.size, 0, none⟩) 128 128)).heap[w.heap.size + 1]? = some (.cells (cellsOf (L.set k (some ⟨wr.heap.size, 0, none⟩, 128, z128))) 35 (0, 0)) := by
        rw [← hsv, ← cellsOf_set]
        exact cells_setU H5.out.2.1
      have hup : Upd1 (w.heap.size + 1) W5 (W5.setCell ⟨w.heap.size + 1, k, none⟩ (.slice (some ⟨wr.heap.size, 0, none⟩) 128 128)) := (Upd1.of_below (Below.refl _ _)).set
      have hZ : Zer (W5.setCell ⟨w.heap.size + 1, k, none⟩ (.slice (some ⟨wr.heap.size, 0, none⟩) 128 128)) w.heap.size (L.set k (some ⟨wr.heap.size, 0, none⟩, 128, z128)) (k + 1) := fun i hi => by
        rcases Nat.lt_succ_iff_lt_or_eq.1 hi with h | rfl
        · rw [nS_set_ne (by omega)]
          exact ⟨((H5.out.2.2.2.2.1 i h).1).upd hup H5.out.2.1, (H5.out.2.2.2.2.1 i h).2⟩
        · rw [nS_set hlk]
          have := slg_of H5.out.2.2.1 (B := w.heap.size) hlo
          rw [z128_len] at this
          exact ⟨this.upd hup H5.out.2.1, rfl⟩
      have hD6 := (Below.heap_setCell W5 ⟨w.heap.size + 1, k, none⟩ (.slice (some ⟨wr.heap.size, 0, none⟩) 128 128) w.heap.size (show w.heap.size ≠ w.heap.size + 1 by omega)).trans H5.out.1
      have hB6 := H5.out.2.2.2.1.setCell (p := ⟨w.heap.size + 1, k, none⟩) (show w.heap.size ≤ w.heap.size + 1 by omega) (.slice (some ⟨wr.heap.size, 0, none⟩) 128 128)
      have hex : ∃ L' : List Sl, L'.length = m ∧ (W5.setCell ⟨w.heap.size + 1, k, none⟩ (.slice (some ⟨wr.heap.size, 0, none⟩) 128 128)).heap[w.heap.size + 1]? = some (.cells (cellsOf L') 35 (0, 0)) ∧ Zer (W5.setCell ⟨w.heap.size + 1, k, none⟩ (.slice (some ⟨wr.heap.size, 0, none⟩) 128 128)) w.heap.size L' (k + 1) := ⟨_, (List.length_set ..).trans H5.out.2.2.2.2.2, hX, hZ⟩
      have H6 := Lib.hid (And.intro hD6 (And.intro hB6 hex))
      clear hex hsv hlk hX hup hZ hD6 hB6 c5 f5
      generalize W5.setCell ⟨w.heap.size + 1, k, none⟩ (.slice (some ⟨wr.heap.size, 0, none⟩) 128 128) = W6 at *
      go_simp
      go_wp2_with fail
      go_roundw
      case rel => exact ⟨k + 1, HK.out, by go_num, H6⟩
      case measure => have := HK.out; simp [intOf]; omega
    · obtain rfl : k = m := by omega
      have j1 : ¬ (k : Int) < (k : Int) := by omega
      have x0 := blk_cell HR.out.1 0
      have x1 := blk_cell HR.out.1 1
      have x2 := blk_cell HR.out.1 2
      have x3 := blk_cell HR.out.1 3
      have f0 := blk_free HR.out.1 0
      have f1 := blk_free HR.out.1 1
      have f2 := blk_free HR.out.1 2
      have f3 := blk_free HR.out.1 3
      go_wp2
      obtain ⟨L, hL, hb, hz⟩ := HR.out.2.2
      refine bodyPost_ret (v := .tuple #[.agg #[.slice (some ⟨w.heap.size + 1, 0, none⟩) k k, .slice none 0 0, .int .i64 (-1), .bool false], .int .i64 0]) ?_ rfl ⟨.inr ⟨k, w.heap.size + 1, L, rfl, HM.out.1, HM.out.2, by omega, rfl, hL, cell4_other hb (by omega), fun i hi => ⟨?_, (hz i hi).2⟩⟩, cell4_below (Nat.le_refl _) HR.out.2.1⟩
      · exact results_dk_tmp Try.results12 _ _ w.heap.size 25 _ (0, 0) rfl (cell4_set HR.out.1) (by kernel_rfl) _ rfl
      · exact SlG.updC (hz i hi).1 ((((Upd1.of_below (Below.refl _ _)).set).set).set).set HR.out.1 (fun j x => by rcases j with _ | _ | _ | _ | j <;> simp)
end Go.Proofs.Ytbimmahlcceadaa
