/- perform (layer 4). -/
import Derived.Test.YtbimmahlcceadaaDskRun
namespace Go.Proofs.Ytbimmahlcceadaa
open Go.ChangeShapes Go.WideShapes Go.ChangeAt Go.RowKit
/-- A world in which one block of the old ones may hold something else. -/
structure Upd1 (h : Nat) (w w' : World) : Prop where
  size : w.heap.size ≤ w'.heap.size
  far : ∀ q, q < w.heap.size → q ≠ h → w'.heap[q]? = w.heap[q]?
  low : ∀ B, B ≤ h → B ≤ w.heap.size → Below B w w'
theorem Upd1.of_below {h : Nat} {w w' : World} (hb : Below w.heap.size w w') : Upd1 h w w' := ⟨hb.size, fun q hq _ => hb.block q hq, fun _ _ h2 => hb.mono h2⟩
theorem Upd1.set {h i : Nat} {w w' : World} {v : Value} (u : Upd1 h w w') : Upd1 h w (w'.setCell ⟨h, i, none⟩ v) :=
  ⟨by rw [World.size_setCell]; exact u.size, fun q hq hn => (Below.heap_setCell w' ⟨h, i, none⟩ v q hn).trans (u.far q hq hn), fun B h1 h2 => (u.low B h1 h2).setCell (p := ⟨h, i, none⟩) h1 v⟩
theorem Upd1.alloc {h : Nat} {w w' : World} (u : Upd1 h w w') (o : Obj) : Upd1 h w (w'.alloc o) :=
  ⟨by rw [World.size_alloc]; have := u.size; omega, fun q hq hn => (Below.heap_alloc w' o q (Nat.lt_of_lt_of_le hq u.size)).trans (u.far q hq hn), fun B h1 h2 => (u.low B h1 h2).alloc (Nat.le_trans h2 u.size) o⟩
/-- The headers of sectors. -/
def cellsOf (S : List Sl) : Array Value := (S.map slV).toArray
theorem cellsOf_get {S : List Sl} {j : Nat} (h : j < S.length) : (cellsOf S)[j]? = some (slV (nS S j)) := by
  simp [cellsOf, nS, List.getD_eq_getElem?_getD, h]
theorem cellsOf_set {S : List Sl} {j : Nat} {s : Sl} : (cellsOf S).setIfInBounds j (slV s) = cellsOf (S.set j s) := by
  simp [cellsOf, List.map_set]
/-- The sectors behind the first k writes. -/
def perfK (S : List Sl) (P : List Wr) : Nat → List Sl
  | 0 => S
  | k + 1 => (perfK S P k).set (nW P k).1.toNat (nW P k).2
theorem perfK_len (S : List Sl) (P : List Wr) : ∀ k, (perfK S P k).length = S.length
  | 0 => rfl
  | k + 1 => by rw [perfK, List.length_set, perfK_len S P k]
/-- A block of one's own that begins with the headers of sectors. -/
def HdB (w : World) (b n : Nat) (S : List Sl) : Prop := ∃ cs t, w.heap[b]? = some (.cells cs t (0, 0)) ∧ n ≤ cs.size ∧ S.length = n ∧ ∀ i, i < n → cs[i]? = some (slV (nS S i))
theorem HdB.cell {w : World} {b n i : Nat} {S : List Sl} (h : HdB w b n S) (hi : i < n) : w.cell? ⟨b, i, none⟩ = some (slV (nS S i)) := by
  obtain ⟨cs, t, h1, _, _, h4⟩ := h
  exact (blk_cell h1 i).trans (h4 i hi)
theorem HdB.free {w : World} {b n : Nat} {S : List Sl} (h : HdB w b n S) (i : Nat) : w.frozen? ⟨b, i, none⟩ = false := by
  obtain ⟨cs, t, h1, _⟩ := h
  exact blk_free h1 i
theorem HdB.lt {w : World} {b n : Nat} {S : List Sl} (h : HdB w b n S) : b < w.heap.size := by
  obtain ⟨cs, t, h1, _⟩ := h
  exact blk_lt h1
theorem HdB.len {w : World} {b n : Nat} {S : List Sl} (h : HdB w b n S) : S.length = n := by
  obtain ⟨cs, t, _, _, h3, _⟩ := h
  exact h3
theorem HdB.alloc {w : World} {b n : Nat} {S : List Sl} (h : HdB w b n S) (o : Obj) : HdB (w.alloc o) b n S := by
  obtain ⟨cs, t, h1, h2⟩ := h
  exact ⟨cs, t, blk_alloc h1 o, h2⟩
theorem HdB.below {w w' : World} {B b n : Nat} {S : List Sl} (h : HdB w b n S) (hb : Below B w w') (hB : b < B) : HdB w' b n S := by
  obtain ⟨cs, t, h1, h2⟩ := h
  exact ⟨cs, t, blk_below h1 hb hB, h2⟩
theorem HdB.other {w w' : World} {b n : Nat} {S : List Sl} (h : HdB w b n S) (he : w'.heap[b]? = w.heap[b]?) : HdB w' b n S := by
  obtain ⟨cs, t, h1, h2⟩ := h
  exact ⟨cs, t, he.trans h1, h2⟩
theorem HdB.set {w : World} {b n j : Nat} {S : List Sl} {s : Sl} (h : HdB w b n S) (hj : j < n) : HdB (w.setCell ⟨b, j, none⟩ (slV s)) b n (S.set j s) := by
  obtain ⟨cs, t, h1, h2, h3, h4⟩ := h
  refine ⟨_, t, cells_setU h1, by simpa using h2, by simpa using h3, fun i hi => ?_⟩
  by_cases e : i = j
  · subst e
    simp [nS, List.getD_eq_getElem?_getD, h3, hi, show i < cs.size by omega]
  · rw [Array.getElem?_setIfInBounds_ne (Ne.symm e), h4 i hi]
    simp [nS, List.getD_eq_getElem?_getD, Ne.symm e]
set_option maxHeartbeats 4000000 in
theorem perform_any (S : List Sl) (P : List Wr) (lf : Int) (st : Bool) (b n cap : Nat) (qa : Option Addr) (qn qc : Nat) (pa : Option Addr) (pb po pn pc : Nat) (w : World) (hX : HdB w b n S) (hM : Pens w pa pb po pn P) (hbp : 0 < pn → pb ≠ b) (hv : ∀ k, k < pn → 0 ≤ (nW P k).1 ∧ (nW P k).1 < (n : Int)) (hpn : pn ≤ 9223372036854775807) :
    Calls Try.prog 32 #[.agg #[.slice (some ⟨b, 0, none⟩) n cap, .slice qa qn qc, .int .i64 lf, .bool st], .slice pa pn pc] w fun e w' => e = .returned (.tuple #[]) ∧ HdB w' b n (perfK S P pn) ∧ Upd1 b w w' := by
  have hn := hX.len
  have HH := Lib.hid (show _ ∧ _ ∧ _ ∧ _ from ⟨hM, hbp, hv, hn⟩)
  have hbw := hX.lt
  clear hM hbp hv hn
  go_enter Try.func32, Try.ntmps32
  go_upto_region 1 with fail
  have hb0 : Below w.heap.size w (w.alloc (.cells #[.slice (some ⟨b, 0, none⟩) n cap, .slice qa qn qc, .int .i64 lf, .bool st] 25)) := (Below.refl _ _).alloc (Nat.le_refl _) _
  have hbx := blk_new w (.cells #[.slice (some ⟨b, 0, none⟩) n cap, .slice qa qn qc, .int .i64 lf, .bool st] 25)
  generalize w.alloc (.cells #[.slice (some ⟨b, 0, none⟩) n cap, .slice qa qn qc, .int .i64 lf, .bool st] 25) = W1 at *
  have h1 := hX.below hb0 hbw
  have H1 := Lib.hid (show _ ∧ _ ∧ _ from ⟨h1, hb0, hbx⟩)
  clear hX h1 hb0 hbx
  go_wp2_with fail
  go_loopw [8] (fun v wr => ∃ k : Nat, k ≤ pn ∧ v = .int .i64 k ∧ Hid (HdB wr b n (perfK S P k) ∧ Upd1 b w wr ∧ wr.heap[w.heap.size]? = some (.cells #[.slice (some ⟨b, 0, none⟩) n cap, .slice qa qn qc, .int .i64 lf, .bool st] 25 (0, 0)))) (fun v _ => pn - (intOf v).toNat)
  case atStart => exact ⟨0, Nat.zero_le _, rfl, Lib.hid ⟨H1.out.1, Upd1.of_below H1.out.2.1, H1.out.2.2⟩⟩
  case round =>
    obtain ⟨k, hk, rfl, HR⟩ := hrel
    by_cases hkp : k < pn
    · have j1 : (k : Int) < (pn : Int) := by omega
      have j2 : ¬ (k : Int) < 0 := by omega
      have u1 : IntKind.i64.wrap ((k : Int) + 1) = ((k + 1 : Nat) : Int) := (wrap_id (by omega)).trans (by omega)
      obtain rfl := HH.out.1.adr (by omega)
      have hne := HH.out.2.1 (by omega)
      have hold := HH.out.1.old (by omega)
      have a0 : wr.cell? ⟨pb, po + k * 2, none⟩ = some (.int .i64 (nW P k).1) := by
        have := HH.out.1.at_ k hkp
        unfold World.cell? at this ⊢
        rwa [HR.out.2.1.far pb hold hne]
      have a1 : wr.cell? ⟨pb, po + k * 2 + 1, none⟩ = some (slV (nW P k).2) := by
        have := HH.out.1.cel k hkp
        unfold World.cell? at this ⊢
        rwa [HR.out.2.1.far pb hold hne]
      have hv := HH.out.2.2.1 k hkp
      obtain ⟨j, hj⟩ := Int.eq_ofNat_of_zero_le hv.1
      have hjn : (j : Int) < (n : Int) := by rw [← hj]; exact hv.2
      have hpk : perfK S P (k + 1) = (perfK S P k).set j (nW P k).2 := by rw [perfK, hj]; rfl
      have hlen : j < n := by omega
      rw [hj] at a0
      unfold slV at a1
      have HP := Lib.hid (show _ ∧ _ ∧ _ from ⟨hpk, hlen, hkp⟩)
      clear hv hj hpk hlen hkp
      generalize (nW P k).2 = X at *
      have j3 : ¬ (j : Int) < 0 := by omega
      go_upto_region 4 with fail
      have hb2 : Upd1 b w (wr.alloc (.cells #[.int .i64 j, .slice X.1 X.2.2.length X.2.1] 54)) := HR.out.2.1.alloc _
      have hnw := blk_new wr (.cells #[.int .i64 j, .slice X.1 X.2.2.length X.2.1] 54)
      have hbb := HR.out.1.alloc (.cells #[.int .i64 j, .slice X.1 X.2.2.length X.2.1] 54)
      have hbx := blk_alloc HR.out.2.2 (.cells #[.int .i64 j, .slice X.1 X.2.2.length X.2.1] 54)
      generalize wr.alloc (.cells #[.int .i64 j, .slice X.1 X.2.2.length X.2.1] 54) = W3 at *
      have x0 := blk_cell hbx 0
      have z0 := blk_cell hnw 0
      have z1 := blk_cell hnw 1
      have y0 := hbb.cell (i := j) HP.out.2.1
      have f0 := hbb.free j
      have H3 := Lib.hid (show _ ∧ _ ∧ _ from ⟨hbb, hbx, hb2⟩)
      clear hbb hbx hb2 hnw a0 a1
      unfold slV at y0
      go_wp2_with fail
      go_roundw
      case rel => exact ⟨k + 1, HP.out.2.2, by go_num, Lib.hid ⟨by rw [HP.out.1]; exact H3.out.1.set HP.out.2.1, H3.out.2.2.set, (Below.heap_setCell _ _ _ _ (show w.heap.size ≠ b by omega)).trans H3.out.2.1⟩⟩
      case measure => have := HP.out.2.2; simp [intOf]; omega
    · obtain rfl : k = pn := by omega
      have j1 : ¬ (k : Int) < (k : Int) := by omega
      go_wp2
      go_end0
      exact ⟨rfl, HR.out.1, HR.out.2.1⟩
end Go.Proofs.Ytbimmahlcceadaa
