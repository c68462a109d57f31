/- links.Values (layer 13). -/
import Derived.Test.YthncfhfnboocmaaLnkVal
import Derived.StillTailTactics
namespace Go.Proofs.Ythncfhfnboocmaa
open Go.ChangeShapes Go.WideShapes Go.ChangeAt Go.RowKit

/-- What make gives: m zeros. -/
theorem mk_ints (m : Nat) (hm : m ≤ 256) : ∃ F : Array Value, F.toList = (List.replicate m (0 : Int)).map (Value.int .i64) ∧ ∀ w : World, (Instr.makeSlice 27 (.int .i64 (m : Int)) (.int .i64 (m : Int))).run Try.prog w = .ok (.slice (some ⟨w.heap.size, 0, none⟩) m m) (w.alloc (.cells F 3)) := by
  obtain ⟨i0, hi, hz0, hz1, hz2⟩ := info_parts info_int
  refine ⟨madeCells (Value.int .i64 0).cells (m * i0.size), ?_, fun w => ?_⟩
  · rw [hz1, Nat.mul_one]
    apply List.ext_getElem?
    intro p
    by_cases hp : p < m
    · simp [madeCells, Value.cells, hp, Nat.mod_one]
    · simp [madeCells, Value.cells, hp]
  · have := run_makeSlice (P := Try.prog) w 27 3 i0 (.int .i64 0) Try.underlying27 hi hz0 .i64 .i64 (m : Int) (m : Int) (by omega) (by omega) (by rw [hz1]; simp; omega) (by rw [hz2]; omega) (by omega)
    simpa using this

theorem div_same (a b : Int) (w : World) (hb : 0 < b) (hb2 : b ≤ 9223372036854775807) (ha1 : -9223372036854775808 ≤ a) (ha2 : a ≤ 9223372036854775807) :
    Calls Try.prog 29 #[.int .i64 a, .int .i64 b] w fun e w' => e = .returned (.int .i64 (a / b)) ∧ w' = w := (div_any a b w hb hb2 ha1 ha2).mono fun _ _ h => ⟨h.1, h.2.symm⟩
theorem clip_same (x : Int) (w : World) :
    Calls Try.prog 18 #[.int .i64 x] w fun e w' => e = .returned (.int .i64 (clip x)) ∧ w' = w := (clip_any x w).mono fun _ _ h => ⟨h.1, h.2.symm⟩
theorem Ints.of_block {w : World} {B g m : Nat} {X : Array Value} {l : List Int} (hg : w.heap[g]? = some (.cells X 3 (0, 0))) (hX : X.toList = l.map (Value.int .i64)) (hl : l.length = m) (hB : B ≤ g) (hm : m ≤ 256) : Ints w B (.slice (some ⟨g, 0, none⟩) m m) l := by
  subst hl
  have hs : X.size = l.length := by rw [← Array.length_toList, hX, List.length_map]
  exact ⟨by simp, .inr ⟨g, l.length, X, rfl, hB, hg, Nat.le_refl _, by unfold maxLen; omega, by omega, by rw [hX, Nat.mul_one]; exact List.take_of_length_le (by simp)⟩⟩
theorem val_at {X : Array Value} {l : List Int} (hX : X.toList = l.map (Value.int .i64)) {i : Nat} (hi : i < l.length) : X[i]? = some (.int .i64 (l.getD i 0)) := by
  rw [← Array.getElem?_toList, hX]
  simp [List.getD_eq_getElem?_getD, hi]
theorem val_set {X : Array Value} {l : List Int} (hX : X.toList = l.map (Value.int .i64)) (i : Nat) (y : Int) : (X.setIfInBounds i (.int .i64 y)).toList = (l.set i y).map (Value.int .i64) := by
  rw [Array.toList_setIfInBounds, hX, List.map_set]

set_option maxRecDepth 100000 in
set_option maxHeartbeats 16000000 in
theorem lkValues (a a2 : Option Addr) (b off n cap b2 off2 m cap2 : Nat) (l : List Jt) (vs : List Int) (w : World) (h : Js w a n b off l) (hn : n ≤ 9223372036854775807) (hwl : ∀ i, i < n → wfJ (nthJ l i)) (h2 : Row w a2 b2 off2 m vs) (hm : m ≤ 9223372036854775807) :
    Calls Try.prog 16 #[.slice a n cap, .slice a2 m cap2] w fun e w' => ∃ v, e = .returned (.tuple #[v, .int .i64 (chkL (m : Int) l)]) ∧ Ints w' w.heap.size v (valL l vs) ∧ Below w.heap.size w w' := by
  have hl := h.1
  have hvl := h2.len
  have HK := Lib.hid (show _ ∧ _ ∧ _ from ⟨h, hwl, h2⟩)
  clear h hwl h2
  by_cases hc : chkL (m : Int) l = 0
  case neg =>
    have EB := Lib.hid (show valL l vs = [] by unfold valL; rw [hvl]; exact if_neg hc)
    go_enter Try.func16, Try.ntmps16
    go_wp2_with fail
    refine (lkOrder (m : Int) a b off n cap l _ HK.out.1 hn HK.out.2.1).mono ?_; rintro e w1 ⟨v, rfl, _, hB1⟩
    go_wp2
    go_ret2
    exact ⟨_, rfl, by rw [EB.out]; exact Ints.nil _ _, hB1⟩
  obtain ⟨hA, hn2, ⟨hok, hap⟩, hen⟩ := chkL_inv hc
  rw [hl] at hn2 hok hap
  have EO := Lib.hid (show orderL (m : Int) l = ordL m l m by unfold orderL; rw [if_pos hc]; simp)
  have EV := Lib.hid (show valL l vs = valK l vs m by unfold valL; rw [hvl, if_pos hc])
  obtain ⟨F, hF, hmk⟩ := mk_ints m (by omega)
  have hm256 : m ≤ 256 := by omega
  have HF := Lib.hid (show _ ∧ _ ∧ _ ∧ _ ∧ _ from ⟨hF, hA, hok, hap, hen⟩)
  clear hF hA hok hap hen
  go_enter Try.func16, Try.ntmps16
  go_wp2_with fail
  refine (lkOrder (m : Int) a b off n cap l _ HK.out.1 hn HK.out.2.1).mono ?_; rintro e w1 ⟨v, rfl, hO, hB1⟩
  rw [hc]
  rw [EO.out] at hO
  obtain ⟨ao, bo, co, ev, hRo, _⟩ := hO.row
  rw [ordL_len] at ev hRo
  subst ev
  have HB1 := Lib.hid (show _ ∧ _ ∧ _ from ⟨hO, hRo, hB1⟩)
  have z1 := hB1.size
  clear hO hRo hB1
  go_wp2_with fail
  refine (lkSources a b off n cap l _ (HK.out.1.grown HB1.out.2.2) (by omega) HK.out.2.1).mono ?_; rintro e w2 ⟨⟨mb, hmb, rfl, hown⟩, hB2⟩
  have z2 := hB2.size
  have hml := hown.lt
  have hg := blk_new w2 (.cells F 3)
  obtain ⟨g, hgd⟩ : ∃ g, g = w2.heap.size := ⟨_, rfl⟩
  have HB2 := Lib.hid (show _ ∧ _ ∧ _ ∧ _ from ⟨hown, hB2, (by rw [hgd]; exact (Below.refl _ _).alloc (Nat.le_refl _) _ : Below g w2 (w2.alloc (.cells F 3))), hg⟩)
  clear hown hB2 hg
  go_wp2
  rw [← hgd] at HB2 z2 hml ⊢
  have HGD := Lib.hid hgd
  clear hgd hmk
  go_loopw [29] (fun i wr => ∃ (k : Nat) (X : Array Value), k ≤ m ∧ i = .int .i64 k ∧ wr.heap[g]? = some (.cells X 3 (0, 0)) ∧ X.toList = (valK l vs k).map (Value.int .i64) ∧ g < wr.heap.size ∧ Below g w2 wr) (fun i _ => m - (intOf i).toNat)
  case atStart => exact ⟨0, F, Nat.zero_le _, rfl, HB2.out.2.2.2, by rw [valK_zero, hvl]; exact HF.out.1, by rw [World.size_alloc, ← HGD.out]; omega, HB2.out.2.2.1⟩
  case round =>
    obtain ⟨k, X, hk, rfl, rg, hX, hgr, hB⟩ := hrel
    have hB1 : Below w1.heap.size w1 wr := HB2.out.2.1.trans (hB.mono (by omega))
    have hBw : Below w.heap.size w wr := HB1.out.2.2.trans (hB1.mono z1)
    by_cases hlt : k < m
    case neg =>
      obtain rfl : k = m := by omega
      have hO2 := Ints.of_block (B := w.heap.size) rg hX (by rw [valK_len, hvl]) (by omega) hm256
      rw [← EV.out] at hO2
      have HO := Lib.hid (show _ ∧ _ from ⟨hO2, hBw⟩)
      clear hO2 hBw hB1 hB hX rg
      go_wp2
      go_ret2
      exact ⟨_, by rw [hc]; rfl, HO.out.1, HO.out.2⟩
    have i2 : (k : Int) < (m : Int) := by omega
    have uk : IntKind.i64.wrap ((k : Int) + 1) = (k : Int) + 1 := wrap_id (by omega)
    have ho := (HB1.out.2.1.below hB1 (Nat.le_refl _)).cel k hlt
    obtain rfl := HB1.out.2.1.adr (by omega)
    have hbo := HB1.out.2.1.old (by omega)
    rw [ordL_get m l k m hlt, Nat.zero_add] at ho
    obtain ⟨hp1, _⟩ := nxt_lt hl HF.out.2.2.1 HF.out.2.2.2.1 HF.out.2.2.2.2 (lst := ordL m l k) (by rw [ordL_len]; exact hlt)
    have es := valK_succ l vs k
    rw [hvl] at es
    generalize nxtL m l (ordL m l k) = p at *
    have hlk := lkLook (ownsMap_below HB2.out.1 hB hml) p (WalkArith.wf_i64 (by omega))
    have i3 : (p : Int) < (m : Int) := by omega
    have hv := (HK.out.2.2.below hBw (Nat.le_refl _)).cel p hp1
    obtain rfl := HK.out.2.2.adr (by omega)
    have hbv := HK.out.2.2.old (by omega)
    have cg := (blk_cell rg p).trans (val_at hX (i := p) (by rw [valK_len, hvl]; exact hp1))
    have fg := blk_free rg p
    have hz := hBw.size
    have hz1 := hB1.size
    have hbor : bo < wr.heap.size := by omega
    have hbvr : b2 < wr.heap.size := by omega
    unfold stepL at es
    rw [hl] at es
    have HR := Lib.hid (show _ ∧ _ ∧ _ from ⟨rg, hX, hB⟩)
    clear rg hX hB hB1
    by_cases e0 : srcN l p n = 0
    · rw [show decide (0 < srcN l p n) = false from decide_eq_false (by omega)] at hlk
      rw [if_pos e0, Int.toNat_natCast] at es
      generalize vs.getD p 0 = y at *
      have HS := Lib.hid es
      clear es e0
      go_wp2_with (go_at_call 18; refine (clip_any _ _).mono ?_; rintro e' w' ⟨rfl, rfl⟩)
      go_roundw
      case rel => exact ⟨k + 1, _, by omega, by go_num, blk_alloc (cells_setJ HR.out.1) _, by rw [HS.out]; exact val_set HR.out.2.1 p _, by rw [World.size_alloc, World.size_setCell]; omega, (HR.out.2.2.setCell (p := ⟨g, p, none⟩) (Nat.le_refl _) _).alloc (by rw [World.size_setCell]; omega) _⟩
      case measure => simp [intOf]; omega
    · rw [show decide (0 < srcN l p n) = true from decide_eq_true (by omega)] at hlk
      rw [if_neg e0, Int.toNat_natCast] at es
      have hle := srcN_le l p n
      have hokq := HF.out.2.2.1 (srcN l p n - 1) (by omega)
      have elk : lookJ l p n = nthJ l (srcN l p n - 1) := by unfold lookJ; rw [if_neg e0]
      rw [elk] at hlk
      generalize nthJ l (srcN l p n - 1) = z at *
      obtain ⟨z0, z1', z2', z3', z4'⟩ := z
      obtain ⟨_, hf, _, hn1, hd1, ha1⟩ := hokq
      dsimp only at hf hn1 hd1 ha1 es hlk
      obtain ⟨f, rfl⟩ : ∃ f : Nat, z0 = f := ⟨z0.toNat, by omega⟩
      have i4 : (f : Int) < (m : Int) := hf.2
      have hxin := valK_in l vs k f
      have cf := (blk_cell HR.out.1 f).trans (val_at HR.out.2.1 (i := f) (by rw [valK_len, hvl]; omega))
      rw [Int.toNat_natCast] at es
      generalize (valK l vs k).getD f 0 = x at *
      have hmu := mul_in hxin hn1
      have hdi := ediv_in (b := z3') (by omega) hmu.1 hmu.2 (by omega) (by omega)
      have w1' : IntKind.i64.wrap (x * z2') = x * z2' := wrap_id (by omega)
      have w2' : IntKind.i64.wrap (x * z2' / z3' + z4') = x * z2' / z3' + z4' := wrap_id (by omega)
      have HS := Lib.hid es
      have HD := Lib.hid (show _ ∧ _ from ⟨hd1, hmu⟩)
      clear es e0 elk hle hmu hdi hxin hn1 ha1 hd1 hf
      unfold vJ at hlk
      dsimp only at hlk
      go_wp2_with fail
      obtain ⟨wz, hwz⟩ : ∃ wz, wz = wr.alloc (.cells #[.int .i64 (f : Int), .int .i64 z1', .int .i64 z2', .int .i64 z3', .int .i64 z4'] 34) := ⟨_, rfl⟩
      have hbx := blk_new wr (.cells #[.int .i64 (f : Int), .int .i64 z1', .int .i64 z2', .int .i64 z3', .int .i64 z4'] 34)
      have k0 := blk_cell hbx 0
      have k2 := blk_cell hbx 2
      have k3 := blk_cell hbx 3
      have k4 := blk_cell hbx 4
      have rz := blk_alloc HR.out.1 (.cells #[.int .i64 (f : Int), .int .i64 z1', .int .i64 z2', .int .i64 z3', .int .i64 z4'] 34)
      have bz := HR.out.2.2.alloc (by omega) (.cells #[.int .i64 (f : Int), .int .i64 z1', .int .i64 z2', .int .i64 z3', .int .i64 z4'] 34)
      rw [← hwz] at k0 k2 k3 k4 rz bz
      simp at k0 k2 k3 k4
      have sz : wz.heap.size = wr.heap.size + 1 := by rw [hwz, World.size_alloc]
      have cgz := (blk_cell rz p).trans (val_at HR.out.2.1 (i := p) (by rw [valK_len, hvl]; exact hp1))
      have cfz : wz.cell? ⟨g, f, none⟩ = some (.int .i64 x) := by rw [blk_cell rz f, ← blk_cell HR.out.1 f]; exact cf
      have fgz := blk_free rz p
      have HZ := Lib.hid (show _ ∧ _ from ⟨rz, bz⟩)
      rw [← hwz]
      clear hwz hbx rz bz cf cg fg hlk ho hv
      go_still_tail 18, (by kernel_rfl)
      repeat still_step
      still_call (div_same (x * z2') z3' _ (by have := HD.out; omega) (by have := HD.out; omega) (by have := HD.out; omega) (by have := HD.out; omega))
      repeat still_step
      still_call (clip_same _ _)
      repeat still_step
      refine wpStill_nil ?_
      go_wp2
      go_roundw
      case rel => exact ⟨k + 1, _, by omega, by go_num, cells_setJ HZ.out.1, by rw [HS.out]; exact val_set HR.out.2.1 p _, by show g < (World.setCell _ _ _).heap.size; rw [World.size_setCell]; omega, (HZ.out.2.setCell (p := ⟨g, p, none⟩) (Nat.le_refl _) _).drew⟩
      case measure => simp [intOf]; omega
end Go.Proofs.Ythncfhfnboocmaa
