/- (*digest.state).bytes (layer 2). -/
import Derived.Test.YthbjjfblapfjdaaDoorDigRB
namespace Go.Proofs.YthbjjfblapfjdaaDoor
open Go.ChangeShapes Go.WideShapes Go.ChangeAt Go.RowKit

/-- A byte of a digest. -/
def dByte (s : St) (i : Nat) : Int := (enc8 s).getD (i / 4) 0 / 2 ^ (24 - i % 4 * 8) % 256
def dgV (s : St) : Array Value := ((List.range 32).map fun i => Value.int .u8 (dByte s i)).toArray
theorem dgV_size (s : St) : (dgV s).size = 32 := by simp [dgV]
theorem dgV_one (s : St) : (dgV s).all (·.oneCell') = true := by
  rw [Array.all_eq_true']
  intro v hv
  simp [dgV] at hv
  obtain ⟨a, _, rfl⟩ := hv
  rfl
def Dg (X : Array Value) (s : St) (k : Nat) : Prop := X.size = 32 ∧ ∀ i, i < 32 → X[i]? = some (.int .u8 (if i < k then dByte s i else 0))
theorem Dg.set {X : Array Value} {s : St} {k : Nat} (h : Dg X s k) : Dg (X.setIfInBounds k (.int .u8 (dByte s k))) s (k + 1) := by
  refine ⟨by simp [h.1], fun i hi => ?_⟩
  by_cases e : k = i
  · subst e
    rw [Array.getElem?_setIfInBounds_self, if_pos (by rw [h.1]; exact hi), if_pos (by omega)]
  · rw [Array.getElem?_setIfInBounds_ne e, h.2 i hi]
    by_cases c : i < k
    · rw [if_pos c, if_pos (by omega)]
    · rw [if_neg c, if_neg (by omega)]
theorem Dg.all {X : Array Value} {s : St} (h : Dg X s 32) : X = dgV s := by
  apply Array.ext_getElem?
  intro i
  by_cases hi : i < 32
  · rw [h.2 i hi, if_pos hi]
    simp [dgV, hi]
  · rw [Array.getElem?_eq_none (by rw [h.1]; omega), Array.getElem?_eq_none (by rw [dgV_size]; omega)]

set_option maxRecDepth 100000 in
set_option maxHeartbeats 4000000 in
theorem bytes_any (h : Nat) (s : St) (w : World) (hh : w.heap[h]? = some (.cells (stV s) 52 (0, 0))) :
    Calls Tryd.prog 29 #[.pointer (some ⟨h, 0, none⟩)] w fun e w' => e = .returned (.agg (dgV s)) ∧ Below w.heap.size w w' := by
  have HH := Lib.hid hh
  have hlt := (Array.getElem?_eq_some_iff.1 hh).1
  clear hh
  go_enter Tryd.func29, Tryd.ntmps29
  go_wp2_with fail
  go_loopw [4] (fun i wr => ∃ (k : Nat) (X : Array Value), k ≤ 32 ∧ i = .int .i64 k ∧ wr.heap[w.heap.size]? = some (.cells X 26 (0, 0)) ∧ Dg X s k ∧ Below w.heap.size w wr) (fun i _ => 32 - (intOf i).toNat)
  case atStart => exact ⟨0, _, by omega, rfl, blk_new _ _, ⟨rfl, fun i hi => by
    rw [if_neg (by omega)]
    have : ∀ i : Fin 32, (Array.replicate 32 (Value.int .u8 0))[i.1]? = some (.int .u8 0) := by intro i; simp
    exact this ⟨i, hi⟩⟩, (Below.refl _ _).alloc (Nat.le_refl _) _⟩
  case round =>
    obtain ⟨k, X, hk, rfl, hX, hD, hB⟩ := hrel
    have hgr := (Array.getElem?_eq_some_iff.1 hX).1
    by_cases hl : k < 32
    case neg =>
      obtain rfl : k = 32 := by omega
      have eX := Lib.hid hD.all
      have HB2 := Lib.hid hB
      have hs := hD.1
      have h1 : X.all (·.oneCell') = true := by rw [eX.out]; exact dgV_one s
      clear hD hB
      go_upto_region 6 with fail
      refine wp_region_lit ?_
      refine wpList_load_row rfl _ (.tmp 2) rfl w.heap.size rfl 26 X (0, 0) _ hX Tryd.underlying26 rfl (by rw [hs]; kernel_rfl) ?_
      refine wpList_store_row rfl _ (.tmp 2) (.tmp 22) rfl w.heap.size X rfl rfl 26 X hX (by rw [hs]; kernel_rfl) rfl h1 ?_
      rw [setRow_same hX]
      go_wp2
      refine bodyPost_ret (v := .agg X) ?_ rfl ⟨by rw [eX.out], HB2.out⟩
      exact results_cell_row Tryd.results29 _ _ w.heap.size 26 X (0, 0) _ rfl hX Tryd.underlying26 rfl (by rw [hs]; kernel_rfl)
    have i1 : (k : Int) < 32 := by omega
    have uk : IntKind.i64.wrap ((k : Int) + 1) = (k : Int) + 1 := wrap_id (by omega)
    obtain ⟨a, ha⟩ : ∃ a : Nat, a = k / 4 := ⟨_, rfl⟩
    obtain ⟨c, hc⟩ : ∃ c : Nat, c = k % 4 := ⟨_, rfl⟩
    obtain ⟨e, he⟩ : ∃ e : Nat, e = 24 - c * 8 := ⟨_, rfl⟩
    have qa : (k : Int).tdiv 4 = (a : Int) := by rw [ha]; rfl
    have qa2 : (k : Int) / 4 = (a : Int) := by omega
    have qc : (k : Int).tmod 4 = (c : Int) := by rw [hc]; rfl
    have qc2 : (k : Int) % 4 = (c : Int) := by omega
    have u1 : IntKind.i64.wrap ((c : Int) * 8) = (c : Int) * 8 := wrap_id (by omega)
    have u2 : IntKind.i64.wrap (24 - (c : Int) * 8) = (e : Int) := (wrap_id (by omega)).trans (by omega)
    have ua : (a : Int) < 8 := by omega
    have ue : ¬ (e : Int) < 0 := by omega
    have ch := (blk_cell (blk_below HH.out hB hlt) a).trans (enc8_get s a (by omega))
    have hhr : h < wr.heap.size := Nat.lt_of_lt_of_le hlt hB.size
    have cg := (blk_cell hX k).trans (hD.2 k hl)
    have fg := blk_free hX k
    have hd : dByte s k = (enc8 s).getD a 0 / 2 ^ e % 256 := by unfold dByte; rw [← ha, ← hc, ← he]
    have hD2 := hD.set
    rw [hd] at hD2
    have HX := Lib.hid (show _ ∧ _ ∧ _ from ⟨hX, hD2, hB⟩)
    have HE := Lib.hid (show e ≤ 24 by omega)
    clear hX hD hB hd hD2 ha hc he
    generalize (enc8 s).getD a 0 = x at *
    generalize (if k < k then dByte s k else 0) = zz at *
    go_wp2
    go_roundw
    case rel => exact ⟨k + 1, _, by omega, by go_num, cells_setU HX.out.1, by rw [show min e 32 = e by have := HE.out; omega]; exact HX.out.2.1, HX.out.2.2.setCell (p := ⟨w.heap.size, k, none⟩) (Nat.le_refl _) _⟩
    case measure => simp [intOf]; omega
end Go.Proofs.YthbjjfblapfjdaaDoor
