/- digest.schedule (layer 2). -/
import Derived.Test.YthbjjfblapfjdaaDoorDigMath
import Derived.StillTailTactics
import Derived.BigQuiet
import Derived.Deep.Cut
import Derived.Deep.WholeRow
namespace Go.Proofs.YthbjjfblapfjdaaDoor
open Go.ChangeShapes Go.WideShapes Go.ChangeAt Go.RowKit

theorem wrap_id {x : Int} (h : -9223372036854775808 ≤ x ∧ x ≤ 9223372036854775807) : IntKind.i64.wrap x = x := by rw [IntKind.wrap_i64]; omega
/-- Sixty-four bytes. -/
def Blk (w : World) (b off : Nat) (l : List Int) : Prop := b < w.heap.size ∧ ∀ i, i < 64 → w.cell? ⟨b, off + i, none⟩ = some (.int .u8 (l.getD i 0))
theorem Blk.below {w w' : World} {b off : Nat} {l : List Int} (h : Blk w b off l) (hb : Below w.heap.size w w') : Blk w' b off l :=
  ⟨Nat.lt_of_lt_of_le h.1 hb.size, fun i hi => (hb.cell (p := ⟨b, off + i, none⟩) h.1).trans (h.2 i hi)⟩
theorem cells_setU {w : World} {b i : Nat} {cs : Array Value} {v : Value} {t : TypeId} (h : w.heap[b]? = some (.cells cs t (0, 0))) : (w.setCell ⟨b, i, none⟩ v).heap[b]? = some (.cells (cs.setIfInBounds i v) t (0, 0)) := by
  have hlt := (Array.getElem?_eq_some_iff.1 h).1
  have h' : w.heap[b] = .cells cs t (0, 0) := (Array.getElem?_eq_some_iff.1 h).2
  show (w.heap.modify b _)[b]? = _
  rw [Array.getElem?_eq_getElem (by simpa using hlt), Array.getElem_modify_self, h']
  rfl
/-- The array while it is filled. -/
def Arr (X : Array Value) (l : List Int) (k : Nat) : Prop := X.size = 64 ∧ ∀ i, i < 64 → X[i]? = some (.int .u32 (if i < k then wAt l i else 0))
theorem Arr.set {X : Array Value} {l : List Int} {k : Nat} (h : Arr X l k) (_hk : k < 64) : Arr (X.setIfInBounds k (.int .u32 (wAt l k))) l (k + 1) := by
  refine ⟨by simp [h.1], fun i hi => ?_⟩
  by_cases e : k = i
  · subst e
    rw [Array.getElem?_setIfInBounds_self, if_pos (by rw [h.1]; exact hi), if_pos (by omega)]
  · rw [Array.getElem?_setIfInBounds_ne e, h.2 i hi]
    by_cases c : i < k
    · rw [if_pos c, if_pos (by omega)]
    · rw [if_neg c, if_neg (by omega)]
theorem Arr.get {X : Array Value} {l : List Int} {k i : Nat} (h : Arr X l k) (hi : i < k) (hk : k ≤ 64) : X[i]? = some (.int .u32 (wAt l i)) := by
  rw [h.2 i (by omega), if_pos hi]
/-- The whole array as a value. -/
def wVal (l : List Int) : Array Value := ((List.range 64).map fun i => Value.int .u32 (wAt l i)).toArray
theorem wVal_one (l : List Int) : (wVal l).all (·.oneCell') = true := by
  rw [Array.all_eq_true']
  intro v hv
  simp [wVal] at hv
  obtain ⟨a, _, rfl⟩ := hv
  rfl
theorem setRow_same {w : World} {g : Nat} {c : Array Value} {t : TypeId} {fr : Nat × Nat} (h : w.heap[g]? = some (.cells c t fr)) : w.setRow g c = w := by
  have e : (w.setRow g c).heap = w.heap := by
    simp only [World.setRow]
    apply Array.ext_getElem?
    intro i
    rw [Array.getElem?_modify]
    by_cases hi : g = i
    · subst hi
      simp [h]
    · simp [hi]
  cases w
  simp only [World.setRow] at e ⊢
  simp [e]
theorem Arr.all {X : Array Value} {l : List Int} (h : Arr X l 64) : X = wVal l := by
  apply Array.ext_getElem?
  intro i
  by_cases hi : i < 64
  · rw [h.2 i hi, if_pos hi]
    simp [wVal, hi]
  · rw [Array.getElem?_eq_none (by rw [h.1]; omega), Array.getElem?_eq_none (by simp [wVal]; omega)]

set_option maxRecDepth 100000 in
set_option maxHeartbeats 4000000 in
theorem sch_any (b off cap : Nat) (l : List Int) (w : World) (h : Blk w b off l) :
    Calls Tryd.prog 43 #[.slice (some ⟨b, off, none⟩) 64 cap] w fun e w' => e = .returned (.agg (wVal l)) ∧ Below w.heap.size w w' := by
  have HB := Lib.hid h
  clear h
  obtain ⟨g, hg⟩ : ∃ g, g = w.heap.size := ⟨_, rfl⟩
  go_enter Tryd.func43, Tryd.ntmps43
  go_wp2_with fail
  go_loopw [8] (fun i wr => ∃ (k : Nat) (X : Array Value), k ≤ 16 ∧ i = .int .i64 k ∧ wr.heap[w.heap.size]? = some (.cells X 63 (0, 0)) ∧ Arr X l k ∧ Below w.heap.size w wr) (fun i _ => 16 - (intOf i).toNat)
  case atStart => exact ⟨0, _, by omega, rfl, blk_new _ _, ⟨rfl, fun i hi => by
    rw [if_neg (by omega)]
    have : ∀ i : Fin 64, (Array.replicate 64 (Value.int .u32 0))[i.1]? = some (.int .u32 0) := by intro i; simp
    exact this ⟨i, hi⟩⟩, (Below.refl _ _).alloc (Nat.le_refl _) _⟩
  case round =>
    obtain ⟨k, X, hk, rfl, hX, hA, hB⟩ := hrel
    have hgr := (Array.getElem?_eq_some_iff.1 hX).1
    by_cases hlt : k < 16
    case neg =>
      have ek : k = 16 := by omega
      have nk : ¬ (k : Int) < 16 := by omega
      have HX := Lib.hid (show _ ∧ Arr X l 16 ∧ _ from ⟨hX, ek ▸ hA, hB⟩)
      clear hX hA hB ek hk hlt
      generalize wr = W0 at *
      go_wp2
      go_loopw [47] (fun i wr => ∃ (k : Nat) (X : Array Value), k ≤ 48 ∧ i = .int .i64 k ∧ wr.heap[w.heap.size]? = some (.cells X 63 (0, 0)) ∧ Arr X l (16 + k) ∧ Below w.heap.size w wr) (fun i _ => 48 - (intOf i).toNat)
      case atStart => exact ⟨0, X, by omega, rfl, HX.out.1, HX.out.2.1, HX.out.2.2⟩
      case round =>
        obtain ⟨k, X, hk, rfl, hX, hA, hB⟩ := hrel
        have hgr := (Array.getElem?_eq_some_iff.1 hX).1
        by_cases hlt : k < 48
        case neg =>
          obtain rfl : k = 48 := by omega
          have eX := Lib.hid hA.all
          have HB2 := Lib.hid hB
          have hs := hA.1
          have h1 : X.all (·.oneCell') = true := by rw [eX.out]; exact wVal_one l
          clear hA hB
          go_upto_region 13 with fail
          refine wp_region_lit ?_
          refine wpList_load_row rfl _ (.tmp 2) rfl w.heap.size rfl 63 X (0, 0) _ hX Tryd.underlying63 rfl (by rw [hs]; kernel_rfl) ?_
          refine wpList_store_row rfl _ (.tmp 2) (.tmp 90) rfl w.heap.size X rfl rfl 63 X hX (by rw [hs]; kernel_rfl) rfl h1 ?_
          rw [setRow_same hX]
          go_wp2
          refine bodyPost_ret (v := .agg X) ?_ rfl ⟨by rw [eX.out], HB2.out⟩
          exact results_cell_row Tryd.results43 _ _ w.heap.size 63 X (0, 0) _ rfl hX Tryd.underlying63 rfl (by rw [hs]; kernel_rfl)
        have i1 : (k : Int) < 48 := by omega
        have uk : IntKind.i64.wrap ((k : Int) + 1) = (k : Int) + 1 := wrap_id (by omega)
        obtain ⟨T, hT⟩ : ∃ T : Nat, T = k + 16 := ⟨_, rfl⟩
        obtain ⟨p, hp⟩ : ∃ p : Nat, p = k + 1 := ⟨_, rfl⟩
        obtain ⟨q, hq⟩ : ∃ q : Nat, q = k + 14 := ⟨_, rfl⟩
        obtain ⟨r, hr⟩ : ∃ r : Nat, r = k + 9 := ⟨_, rfl⟩
        have ut : IntKind.i64.wrap ((k : Int) + 16) = (T : Int) := (wrap_id (by omega)).trans (by omega)
        have up : IntKind.i64.wrap ((T : Int) - 15) = (p : Int) := (wrap_id (by omega)).trans (by omega)
        have uq : IntKind.i64.wrap ((T : Int) - 2) = (q : Int) := (wrap_id (by omega)).trans (by omega)
        have ur : IntKind.i64.wrap ((T : Int) - 7) = (r : Int) := (wrap_id (by omega)).trans (by omega)
        have uz : IntKind.i64.wrap ((T : Int) - 16) = (k : Int) := (wrap_id (by omega)).trans (by omega)
        have cT := (blk_cell hX T).trans (hA.2 T (by omega))
        have cp := (blk_cell hX p).trans (hA.get (i := p) (by omega) (by omega))
        have cq := (blk_cell hX q).trans (hA.get (i := q) (by omega) (by omega))
        have cr := (blk_cell hX r).trans (hA.get (i := r) (by omega) (by omega))
        have cz := (blk_cell hX k).trans (hA.get (i := k) (by omega) (by omega))
        have fT := blk_free hX T
        have hw := wAt_next l hlt
        rw [← hT, ← hp, ← hr, ← hq] at hw
        have i2 : (T : Int) < 64 := by omega
        have i3 : (p : Int) < 64 := by omega
        have i4 : (q : Int) < 64 := by omega
        have i5 : (r : Int) < 64 := by omega
        have i6 : (k : Int) < 64 := by omega
        have HA := Lib.hid (show _ ∧ _ ∧ _ ∧ _ from ⟨hX, hA, hB, hw⟩)
        have HT := Lib.hid hT
        clear hX hA hB hw hT hp hq hr
        generalize wAt l p = xp at *
        generalize wAt l q = xq at *
        generalize wAt l r = xr at *
        generalize wAt l k = xz at *
        go_wp2_with fail
        go_quiet (fail)
        go_wp2_with fail
        replace cz : (wr.drewN nq).cell? ⟨w.heap.size, k, none⟩ = some (.int .u32 xz) := cz
        replace cr : (wr.drewN nq).cell? ⟨w.heap.size, r, none⟩ = some (.int .u32 xr) := cr
        replace cT : (wr.drewN nq).cell? ⟨w.heap.size, T, none⟩ = some (.int .u32 (if T < 16 + k then wAt l T else 0)) := cT
        replace fT : (wr.drewN nq).frozen? ⟨w.heap.size, T, none⟩ = false := fT
        replace hgr : w.heap.size < (wr.drewN nq).heap.size := hgr
        have HA2 := Lib.hid (show (wr.drewN nq).heap[w.heap.size]? = some (.cells X 63 (0, 0)) ∧ Arr X l (16 + k) ∧ Below w.heap.size w (wr.drewN nq) ∧ wAt l T = nextW xz xp xr xq from ⟨HA.out.1, HA.out.2.1, below_drewN HA.out.2.2.1 _, HA.out.2.2.2⟩)
        clear HA cp cq
        generalize wr.drewN nq = W1 at *
        generalize (if T < 16 + k then wAt l T else 0) = zz at *
        go_still_tail 28, (by kernel_rfl)
        repeat still_step
        still_call (ror_any xp 7 _ (by omega) (by omega))
        repeat still_step
        still_call (ror_any xp 18 _ (by omega) (by omega))
        repeat still_step
        still_call (ror_any xq 17 _ (by omega) (by omega))
        repeat still_step
        still_call (ror_any xq 19 _ (by omega) (by omega))
        repeat still_step
        refine wpStill_nil ?_
        go_wp2
        go_roundw
        case rel => exact ⟨k + 1, _, by omega, by go_num, cells_setU HA2.out.1, by
          have := HA2.out.2.1.set (by omega)
          rw [show 16 + k = T by have := HT.out; omega, HA2.out.2.2.2] at this
          rw [show 16 + (k + 1) = T + 1 by have := HT.out; omega]
          exact this, (HA2.out.2.2.1.setCell (p := ⟨w.heap.size, T, none⟩) (Nat.le_refl _) _).drew⟩
        case measure => simp [intOf]; omega
    have i1 : (k : Int) < 16 := by omega
    have uk : IntKind.i64.wrap ((k : Int) + 1) = (k : Int) + 1 := wrap_id (by omega)
    have hbl := HB.out.below hB
    have hbr := hbl.1
    have c0 := hbl.2 (4 * k) (by omega)
    have c1 := hbl.2 (4 * k + 1) (by omega)
    have c2 := hbl.2 (4 * k + 2) (by omega)
    have c3 := hbl.2 (4 * k + 3) (by omega)
    have cg := (blk_cell hX k).trans (hA.2 k (by omega))
    have fg := blk_free hX k
    have HA := Lib.hid (show _ ∧ _ ∧ _ from ⟨hX, hA, hB⟩)
    have hw := Lib.hid (wAt_first l hlt)
    clear hX hA hB hbl
    unfold wordOf at hw
    generalize l.getD (4 * k) 0 = x0 at *
    generalize l.getD (4 * k + 1) 0 = x1 at *
    generalize l.getD (4 * k + 2) 0 = x2 at *
    generalize l.getD (4 * k + 3) 0 = x3 at *
    have v0 : IntKind.i64.wrap (4 * (k : Int)) = ((4 * k : Nat) : Int) := (wrap_id (by omega)).trans (by omega)
    have v1 : IntKind.i64.wrap (((4 * k : Nat) : Int) + 1) = ((4 * k + 1 : Nat) : Int) := (wrap_id (by omega)).trans (by omega)
    have v2 : IntKind.i64.wrap (((4 * k : Nat) : Int) + 2) = ((4 * k + 2 : Nat) : Int) := (wrap_id (by omega)).trans (by omega)
    have v3 : IntKind.i64.wrap (((4 * k : Nat) : Int) + 3) = ((4 * k + 3 : Nat) : Int) := (wrap_id (by omega)).trans (by omega)
    have i2 : ((4 * k : Nat) : Int) < 64 := by omega
    have i3 : ((4 * k + 1 : Nat) : Int) < 64 := by omega
    have i4 : ((4 * k + 2 : Nat) : Int) < 64 := by omega
    have i5 : ((4 * k + 3 : Nat) : Int) < 64 := by omega
    have i6 : (k : Int) < 64 := by omega
    generalize 4 * k + 1 = k1 at *
    generalize 4 * k + 2 = k2 at *
    generalize 4 * k + 3 = k3 at *
    generalize 4 * k = k0 at *
    go_wp2_with fail
    go_still_tail 34, (by kernel_rfl)
    repeat still_step
    go_wp2
    go_roundw
    case rel => exact ⟨k + 1, _, by omega, by go_num, cells_setU HA.out.1, by
      have := HA.out.2.1.set (by omega)
      rw [hw.out] at this
      exact this, (HA.out.2.2.setCell (p := ⟨w.heap.size, k, none⟩) (Nat.le_refl _) _).drew⟩
    case measure => simp [intOf]; omega
end Go.Proofs.YthbjjfblapfjdaaDoor
