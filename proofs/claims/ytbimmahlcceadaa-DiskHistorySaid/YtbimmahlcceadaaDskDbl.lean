/- Sectors that are made (layer 4). -/
import Derived.Test.YtbimmahlcceadaaDskPerf
import Derived.Laws.MakeOwn
namespace Go.Proofs.Ytbimmahlcceadaa
open Go.ChangeShapes Go.WideShapes Go.ChangeAt Go.RowKit
def bV (L : List Int) : Array Value := (L.map (Value.int .u8)).toArray
def z128 : List Int := List.replicate 128 0
theorem z128_len : z128.length = 128 := List.length_replicate
theorem bV_set (L : List Int) (i : Nat) (x : Int) : (bV L).setIfInBounds i (.int .u8 x) = bV (L.set i x) := by simp [bV, List.map_set]
theorem bV_get {L : List Int} {i : Nat} (h : i < L.length) : (bV L)[i]? = some (.int .u8 (L.getD i 0)) := by
  simp [bV, List.getD_eq_getElem?_getD, h]
theorem slr_of {w : World} {b : Nat} {L : List Int} {t : TypeId} (h : w.heap[b]? = some (.cells (bV L) t (0, 0))) : SlR w (some ⟨b, 0, none⟩, L.length, L) :=
  ⟨b, 0, ⟨rfl, fun _ => rfl, fun _ => blk_lt h, fun i hi => by rw [blk_cell h, Nat.zero_add]; exact bV_get hi⟩, fun e => (by cases e), Nat.le_refl _⟩
/-- A slice of bytes in a block from B on. -/
def SlG (w : World) (B : Nat) (s : Sl) : Prop := ∃ b off, B ≤ b ∧ RowB w s.1 b off s.2.2.length s.2.2 ∧ (s.1 = none → s.2.1 = 0) ∧ s.2.2.length ≤ s.2.1
theorem SlG.r {w : World} {B : Nat} {s : Sl} (h : SlG w B s) : SlR w s := by
  obtain ⟨b, off, _, h2⟩ := h
  exact ⟨b, off, h2⟩
theorem SlG.mono {w : World} {B B' : Nat} {s : Sl} (h : SlG w B s) (hB : B' ≤ B) : SlG w B' s := by
  obtain ⟨b, off, h1, h2⟩ := h
  exact ⟨b, off, Nat.le_trans hB h1, h2⟩
theorem SlG.below {B B0 : Nat} {w w' : World} {s : Sl} (h : SlG w B0 s) (hb : Below B w w') (hB : w.heap.size ≤ B) : SlG w' B0 s := by
  obtain ⟨b, off, h0, h1, h2⟩ := h
  exact ⟨b, off, h0, h1.below hb hB, h2⟩
theorem slg_of {w : World} {b B : Nat} {L : List Int} {t : TypeId} (h : w.heap[b]? = some (.cells (bV L) t (0, 0))) (hB : B ≤ b) : SlG w B (some ⟨b, 0, none⟩, L.length, L) :=
  ⟨b, 0, hB, ⟨rfl, fun _ => rfl, fun _ => blk_lt h, fun i hi => by rw [blk_cell h, Nat.zero_add]; exact bV_get hi⟩, fun e => (by cases e), Nat.le_refl _⟩
theorem run_make128 (w : World) : (Instr.makeSlice 35 (.int .i64 128) (.int .i64 128)).run Try.prog w = .ok (.slice (some ⟨w.heap.size, 0, none⟩) 128 128) (w.alloc (.cells (bV z128) 5)) := by
  obtain ⟨i0, hi, hz0, hz1, hz2⟩ := info_parts info_u8
  have := run_make (P := Try.prog) w 35 5 i0 _ Try.underlying35 hi hz0 .i64 .i64 128 128 (by decide) (by decide) (by rw [hz2]; decide) (by decide)
  rw [hz1] at this
  rw [this]
  congr 3
  kernel_rfl
/-- A sector both halves of which begin with a byte. -/
def dblL (c : Int) : List Int := (z128.set 0 c).set 64 c
theorem dblL_len (c : Int) : (dblL c).length = 128 := by rw [dblL, List.length_set, List.length_set, z128_len]
theorem double_any (c : Int) (w : World) :
    Calls Try.prog 27 #[.int .u8 c] w fun e w' => (∃ s : Sl, e = .returned (slV s) ∧ s.2.2 = dblL c ∧ SlR w' s) ∧ Below w.heap.size w w' := by
  have km := run_make128
  go_enter Try.func27, Try.ntmps27
  go_upto_region 2 with fail
  have hb := blk_new w (.cells (bV z128) 5)
  have hB : Below w.heap.size w (w.alloc (.cells (bV z128) 5)) := (Below.refl _ _).alloc (Nat.le_refl _) _
  generalize w.alloc (.cells (bV z128) 5) = W1 at *
  have c0 := (blk_cell hb 0).trans (bV_get (L := z128) (by rw [z128_len]; omega))
  have c1 := (blk_cell hb 64).trans (bV_get (L := z128) (by rw [z128_len]; omega))
  have f0 := blk_free hb 0
  have f1 := blk_free hb 64
  have H1 := Lib.hid (show _ ∧ _ from ⟨hb, hB⟩)
  clear hb hB km
  go_wp2
  go_ret
  have h2 : ((W1.setCell ⟨w.heap.size, 0, none⟩ (.int .u8 c)).setCell ⟨w.heap.size, 64, none⟩ (.int .u8 c)).heap[w.heap.size]? = some (.cells (bV (dblL c)) 5 (0, 0)) := by
    have := cells_setU (i := 64) (v := .int .u8 c) (cells_setU (i := 0) (v := .int .u8 c) H1.out.1)
    rw [bV_set, bV_set] at this
    exact this
  exact ⟨⟨(some ⟨w.heap.size, 0, none⟩, 128, dblL c), by simp [slV, dblL_len], rfl, by have := slr_of h2; rwa [dblL_len] at this⟩, (H1.out.2.setCell (p := ⟨w.heap.size, 0, none⟩) (Nat.le_refl _) _).setCell (p := ⟨w.heap.size, 64, none⟩) (Nat.le_refl _) _⟩
end Go.Proofs.Ytbimmahlcceadaa
