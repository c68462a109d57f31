/- slices.Contains over pairs (layer 6). -/
import Derived.Test.YthgbkdaimnejeaaNetSam2
import Derived.Test.YthgbkdaimnejeaaNetRep
namespace Go.Proofs.Ythgbkdaimnejeaa
open Go.ChangeShapes Go.WideShapes Go.ChangeAt Go.RowKit Go.Sort Go.Shelf

set_option maxHeartbeats 8000000 in
theorem index_any (pa : Option Addr) (pn pc pb po : Nat) (A : List Qt) (x : Qt) (w : World) (hA : Qs w pa pn pb po A) (hpn : pn ≤ 9223372036854775807) :
    Calls Try.prog 43 #[.slice pa pn pc, vQ x] w fun e w' => ((x ∈ A ∧ ∃ k : Nat, e = .returned (.int .i64 k)) ∨ (x ∉ A ∧ e = .returned (.int .i64 (-1)))) ∧ Below w.heap.size w w' := by
  have HM := Lib.hid (show _ ∧ _ from ⟨hA, hA.1⟩)
  clear hA
  obtain ⟨x0, x1⟩ := x
  dsimp only [vQ]
  obtain ⟨W, hW⟩ : ∃ W, W = w.alloc (.cells #[.int .i64 x0, .int .i64 x1] 55) := ⟨_, rfl⟩
  have hB : Below w.heap.size w W := by rw [hW]; go_grown
  have g1 : W.heap[w.heap.size]? = some (.cells #[.int .i64 x0, .int .i64 x1] 55 (0, 0)) := by rw [hW]; exact blk_new _ _
  have H := Lib.hid (show _ ∧ _ from ⟨g1, hB⟩)
  clear hB g1
  go_enter Try.func43, Try.ntmps43
  go_upto_region 1 with fail
  rw [← hW]
  clear hW
  go_wp2
  go_loopw [8] (fun i wr => ∃ k : Nat, k ≤ pn ∧ i = .int .i64 k ∧ ¬ CutTo A (x0, x1) k ∧ wr.heap[w.heap.size]? = some (.cells #[.int .i64 x0, .int .i64 x1] 55 (0, 0)) ∧ Below w.heap.size w wr) (fun i _ => pn - (intOf i).toNat)
  case atStart => exact ⟨0, Nat.zero_le _, rfl, fun ⟨i, h, _⟩ => by omega, H.out.1, H.out.2⟩
  case round =>
    clear H
    obtain ⟨k, hk, rfl, hno, hbx, hb⟩ := hrel
    have d0 := blk_cell hbx 0; have d1 := blk_cell hbx 1
    simp at d0 d1
    by_cases hlt : k < pn
    case neg =>
      obtain rfl : k = pn := by omega
      have hkk : decide ((k : Int) < k) = false := by simp
      have HN := Lib.hid (show _ ∧ _ from ⟨show (x0, x1) ∉ A from fun g => hno (by rw [← HM.out.2]; exact cutTo_mem.2 g), hb⟩)
      clear hno hbx hb
      go_wp2
      exact bodyPost_ret (v := .int .i64 (-1)) (by simp [results, Try.results43, go_sem]) rfl ⟨.inr ⟨HN.out.1, rfl⟩, HN.out.2⟩
    obtain ⟨rfl, hbw⟩ := HM.out.1.2.1 (by omega)
    obtain ⟨c0, c1⟩ := (HM.out.1.grown hb).2.2 k hlt
    have hy := fun (h : nthQ A k = (x0, x1)) => show (x0, x1) ∈ A from cutTo_mem.1 ⟨k, by rw [HM.out.2]; exact hlt, h⟩
    have hn2 := fun (h : nthQ A k ≠ (x0, x1)) => show ¬ CutTo A (x0, x1) (k + 1) from fun ⟨i, h1, h2⟩ => by
      by_cases e : i = k
      · subst e; exact h h2
      · exact hno ⟨i, by omega, h2⟩
    generalize nthQ A k = y at *
    obtain ⟨y0, y1⟩ := y
    dsimp only at c0 c1
    have hrun := run_eqQ (x0, x1) (y0, y1)
    dsimp only [encQ] at hrun
    have hl1 := (Array.getElem?_eq_some_iff.1 hbx).1
    have HX := Lib.hid (show _ ∧ _ ∧ _ ∧ _ from ⟨hy, hn2, hbx, hb⟩)
    clear hy hn2 hno hbx hb
    have hltI : (k : Int) < pn := by omega
    go_upto_region 4 with fail
    replace c0 := cell_regrown c0; replace c1 := cell_regrown c1
    replace d0 := cell_regrown d0; replace d1 := cell_regrown d1
    by_cases q : ((x0, x1) : Qt) = (y0, y1)
    · rw [decide_eq_true q] at hrun
      have HN := Lib.hid (HX.out.1 q.symm)
      clear q
      refine wp_region_quiet_below (by kernel_rfl) (by kernel_rfl) ?_
      repeat (go_big_quiet_step ((fail)))
      refine wpQuiet_nil ?_
      intro WQ hq'
      have hq := of_regrown hq'
      clear hq'
      go_wp2
      exact bodyPost_ret (v := .int .i64 k) (by simp [results, Try.results43, go_sem]) rfl ⟨.inl ⟨HN.out, k, rfl⟩, below_after HX.out.2.2.2 hq HX.out.2.2.2.size⟩
    rw [decide_eq_false q] at hrun
    have HN := Lib.hid (HX.out.2.1 fun e => q e.symm)
    clear q
    refine wp_region_quiet_below (by kernel_rfl) (by kernel_rfl) ?_
    repeat (go_big_quiet_step ((fail)))
    refine wpQuiet_nil ?_
    intro WQ hq'
    have hq := of_regrown hq'
    clear hq'
    go_wp2
    go_roundw
    case rel => exact ⟨k + 1, by omega, by go_num, HN.out, blk_below HX.out.2.2.1 hq hl1, below_after HX.out.2.2.2 hq HX.out.2.2.2.size⟩
    case measure => simp [intOf] <;> omega
set_option maxHeartbeats 4000000 in
theorem contains_any (pa : Option Addr) (pn pc pb po : Nat) (A : List Qt) (x : Qt) (w : World) (hA : Qs w pa pn pb po A) (hpn : pn ≤ 9223372036854775807) :
    Calls Try.prog 38 #[.slice pa pn pc, vQ x] w fun e w' => e = .returned (.bool (decide (x ∈ A))) ∧ Below w.heap.size w w' := by
  have HM := Lib.hid hA
  clear hA
  obtain ⟨x0, x1⟩ := x
  dsimp only [vQ]
  obtain ⟨W, hW⟩ : ∃ W, W = w.alloc (.cells #[.int .i64 x0, .int .i64 x1] 55) := ⟨_, rfl⟩
  have hB : Below w.heap.size w W := by rw [hW]; go_grown
  have g1 : W.heap[w.heap.size]? = some (.cells #[.int .i64 x0, .int .i64 x1] 55 (0, 0)) := by rw [hW]; exact blk_new _ _
  have d0 := blk_cell g1 0; have d1 := blk_cell g1 1
  simp at d0 d1
  have H := Lib.hid (show _ ∧ _ from ⟨g1, hB⟩)
  clear hB g1
  go_enter Try.func38, Try.ntmps38
  go_upto_region 1 with fail
  rw [← hW]
  clear hW
  go_wp2_with fail
  clear d0 d1
  refine (index_any pa pn pc pb po A (x0, x1) W (HM.out.grown H.out.2) hpn).mono ?_
  rintro e W1 ⟨⟨hm, k, rfl⟩ | ⟨hm, rfl⟩, hb⟩
  · have HN := Lib.hid (show _ ∧ _ from ⟨show decide ((x0, x1) ∈ A) = true from decide_eq_true hm, below_after H.out.2 hb H.out.2.size⟩)
    clear hm hb
    have hk : decide ((0 : Int) ≤ k) = true := decide_eq_true (by omega)
    go_wp2
    exact bodyPost_ret (v := .bool true) (by simp [results, Try.results38, go_sem]) rfl ⟨by rw [HN.out.1], HN.out.2⟩
  · have HN := Lib.hid (show _ ∧ _ from ⟨show decide ((x0, x1) ∈ A) = false from decide_eq_false hm, below_after H.out.2 hb H.out.2.size⟩)
    clear hm hb
    go_wp2
    exact bodyPost_ret (v := .bool false) (by simp [results, Try.results38, go_sem]) rfl ⟨by rw [HN.out.1], HN.out.2⟩
theorem contains_t (pa : Option Addr) (pn pc pb po : Nat) (A : List Qt) (x : Qt) (w : World) (hA : Qs w pa pn pb po A) (hpn : pn ≤ 9223372036854775807) (h : x ∈ A) :
    Calls Try.prog 38 #[.slice pa pn pc, vQ x] w fun e w' => e = .returned (.bool true) ∧ Below w.heap.size w w' := by have := contains_any pa pn pc pb po A x w hA hpn; rwa [decide_eq_true h] at this
theorem contains_f (pa : Option Addr) (pn pc pb po : Nat) (A : List Qt) (x : Qt) (w : World) (hA : Qs w pa pn pb po A) (hpn : pn ≤ 9223372036854775807) (h : x ∉ A) :
    Calls Try.prog 38 #[.slice pa pn pc, vQ x] w fun e w' => e = .returned (.bool false) ∧ Below w.heap.size w w' := by have := contains_any pa pn pc pb po A x w hA hpn; rwa [decide_eq_false h] at this
end Go.Proofs.Ythgbkdaimnejeaa
