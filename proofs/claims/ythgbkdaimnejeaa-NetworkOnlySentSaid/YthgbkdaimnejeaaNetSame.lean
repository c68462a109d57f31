/- SamePacket (layer 6). -/
import Derived.Test.YthgbkdaimnejeaaNetAsk
import Derived.Test.YthgbkdaimnejeaaOwnB
import Derived.Laws.BytesArg
namespace Go.Proofs.Ythgbkdaimnejeaa
open Go.ChangeShapes Go.WideShapes Go.ChangeAt Go.RowKit Go.Sort Go.Shelf

/-- What the data of a packet are. -/
def DatR (w : World) (s : Option Addr × Nat × Nat) (S : ByteArray) : Prop := ∃ b off L, RowB w s.1 b off s.2.1 L ∧ S = strOfNums L
theorem DatR.below {B : Nat} {w w' : World} {s : Option Addr × Nat × Nat} {S : ByteArray} (h : DatR w s S) (hb : Below B w w') (hB : w.heap.size ≤ B) : DatR w' s S := by
  obtain ⟨b, off, L, h1, h2⟩ := h
  exact ⟨b, off, L, h1.below hb hB, h2⟩
theorem DatR.grown {w w' : World} {s : Option Addr × Nat × Nat} {S : ByteArray} (h : DatR w s S) (hb : Below w.heap.size w w') : DatR w' s S := h.below hb (Nat.le_refl _)
theorem dat_conv {w : World} {a : Option Addr} {n c : Nat} {S : ByteArray} (h : DatR w (a, n, c) S) : (convert 26 9 (.slice a n c)).run Try.prog w = .ok (.string S) w := by
  obtain ⟨b, off, L, hR, rfl⟩ := h
  dsimp only at hR
  have hl := hR.len
  by_cases h0 : 0 < n
  · obtain rfl := hR.adr h0
    exact run_convert_bytes_arg w _ _ Try.underlying26 Try.underlying5 b off n c L hl (fun i hi => hR.cel i hi) _ Try.underlying9
  · obtain rfl : n = 0 := by omega
    obtain rfl : L = [] := by
      cases L with
      | nil => rfl
      | cons => simp at hl
    cases a with
    | none => exact run_convert_bytes_nil w _ _ Try.underlying26 Try.underlying5 _ _ _ Try.underlying9
    | some x =>
      have := run_bytesToString (P := Try.prog) w x 0 c [] (run_loadCells_list w x [] (by simp))
      rw [run_convert_bytes_string w _ _ _ _ _ _ Try.underlying26 Try.underlying5 Try.underlying9]
      exact this
theorem ba_inj {a b : ByteArray} (h : a.toList = b.toList) : a = b := by
  rw [ByteArray.toList_eq, ByteArray.toList_eq] at h
  exact ByteArray.ext (Array.toList_inj.mp h)
abbrev Pk := Int × Int × ByteArray
def pk (m : Kt) (S : ByteArray) : Pk := (m.1, m.2.1, S)
set_option maxHeartbeats 4000000 in
theorem samePacket_any (m m' : Kt) (S S' : ByteArray) (w : World) (h : DatR w m.2.2 S) (h' : DatR w m'.2.2 S') : Calls Try.prog 22 #[vK m, vK m'] w fun e w' => e = .returned (.bool (decide (pk m S = pk m' S'))) ∧ Below w.heap.size w w' := by
  obtain ⟨x0, x1, xa, xn, xc⟩ := m
  obtain ⟨y0, y1, ya, yn, yc⟩ := m'
  dsimp only [vK]
  obtain ⟨W, hW⟩ : ∃ W, W = (w.alloc (.cells #[.int .i64 x0, .int .i64 x1, .slice xa xn xc] 28)).alloc (.cells #[.int .i64 y0, .int .i64 y1, .slice ya yn yc] 28) := ⟨_, rfl⟩
  have hB : Below w.heap.size w W := by rw [hW]; go_grown
  have hc1 := dat_conv (h.grown hB)
  have hc2 := dat_conv (h'.grown hB)
  have g1 : W.heap[w.heap.size]? = some (.cells #[.int .i64 x0, .int .i64 x1, .slice xa xn xc] 28 (0, 0)) := by rw [hW]; exact blk_alloc (blk_new _ _) _
  have g2 : W.heap[w.heap.size + 1]? = some (.cells #[.int .i64 y0, .int .i64 y1, .slice ya yn yc] 28 (0, 0)) := by rw [hW]; have := blk_new (w.alloc (.cells #[.int .i64 x0, .int .i64 x1, .slice xa xn xc] 28)) (.cells #[.int .i64 y0, .int .i64 y1, .slice ya yn yc] 28); rwa [World.size_alloc] at this
  have c0 := blk_cell g1 0; have c1 := blk_cell g1 1; have c2 := blk_cell g1 2
  have d0 := blk_cell g2 0; have d1 := blk_cell g2 1; have d2 := blk_cell g2 2
  simp at c0 c1 c2 d0 d1 d2
  have H := Lib.hid hB
  clear hB g1 g2 h h'
  go_enter Try.func22, Try.ntmps22
  go_upto_region 1 with fail
  rw [← hW]
  clear hW
  by_cases h0 : x0 = y0
  case neg =>
    have z0 : (x0 == y0) = false := by simpa using h0
    have HN := Lib.hid (show decide (pk (x0, x1, xa, xn, xc) S = pk (y0, y1, ya, yn, yc) S') = false from decide_eq_false fun g => h0 (by cases g; rfl))
    go_wp2
    exact bodyPost_ret (v := .bool false) (by simp [results, Try.results22, go_sem]) rfl ⟨by rw [HN.out], H.out⟩
  have z0 : (x0 == y0) = true := by simpa using h0
  by_cases h1 : x1 = y1
  case neg =>
    have z1 : (x1 == y1) = false := by simpa using h1
    have HN := Lib.hid (show decide (pk (x0, x1, xa, xn, xc) S = pk (y0, y1, ya, yn, yc) S') = false from decide_eq_false fun g => h1 (by cases g; rfl))
    clear h0
    go_wp2
    exact bodyPost_ret (v := .bool false) (by simp [results, Try.results22, go_sem]) rfl ⟨by rw [HN.out], H.out⟩
  have z1 : (x1 == y1) = true := by simpa using h1
  by_cases h2 : S = S'
  · have z2 : S.toList = S'.toList := by rw [h2]
    have HN := Lib.hid (show decide (pk (x0, x1, xa, xn, xc) S = pk (y0, y1, ya, yn, yc) S') = true from decide_eq_true (by unfold pk; rw [h0, h1, h2]))
    clear h0 h1 h2
    go_wp2
    exact bodyPost_ret (v := .bool true) (by simp [results, Try.results22, go_sem]) rfl ⟨by rw [HN.out], H.out⟩
  have z2 : ¬ S.toList = S'.toList := fun e => h2 (ba_inj e)
  have HN := Lib.hid (show decide (pk (x0, x1, xa, xn, xc) S = pk (y0, y1, ya, yn, yc) S') = false from decide_eq_false fun g => h2 (by cases g; rfl))
  clear h0 h1
  go_wp2
  exact bodyPost_ret (v := .bool false) (by simp [results, Try.results22, go_sem, z2]) rfl ⟨by rw [HN.out], H.out⟩
end Go.Proofs.Ythgbkdaimnejeaa
