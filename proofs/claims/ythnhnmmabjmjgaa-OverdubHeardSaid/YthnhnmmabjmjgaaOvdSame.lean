/- Lists of parts compared; clips of a take compared (layer 44). -/
import Derived.Test.YthnhnmmabjmjgaaPlc
import Derived.Deep.MidRow
import Derived.Deep.Cut
namespace Go.Proofs.Ythnhnmmabjmjgaa
open Go.ChangeShapes Go.WideShapes Go.ChangeAt Go.RowKit Go.Shelf
set_option linter.unusedSimpArgs false

theorem list_ne_atD {xs ys : List Dt} {k : Nat} (h : nthD xs k ≠ nthD ys k) : xs ≠ ys := fun e => h (by rw [e])
theorem list_eq_atD {xs ys : List Dt} (hl : xs.length = ys.length) (h : ∀ k, k < xs.length → nthD xs k = nthD ys k) : xs = ys := by
  refine List.ext_getElem hl fun k h1 h2 => ?_
  have := h k h1
  simpa [nthD, List.getD_eq_getElem?_getD, List.getElem?_eq_getElem h1, List.getElem?_eq_getElem h2] using this
set_option maxRecDepth 100000 in
set_option maxHeartbeats 4000000 in
theorem rsame_any (a : Option Addr) (n cap b off : Nat) (xs : List Dt) (a' : Option Addr) (n' cap' b' off' : Nat) (ys : List Dt) (w : World) (h : Ds w a n b off xs) (h' : Ds w a' n' b' off' ys) (hn : n ≤ 9223372036854775807) (hn' : n' ≤ 9223372036854775807) :
    Calls Try.prog 13 #[.slice a n cap, .slice a' n' cap'] w fun e w' => e = .returned (.bool (decide (xs = ys))) ∧ Below w.heap.size w w' := by
  have HM := Lib.hid (show _ ∧ _ from ⟨h, h'⟩)
  have HL := Lib.hid (show _ ∧ _ from ⟨h.1, h'.1⟩)
  clear h h'
  by_cases hnn : n = n'
  case neg =>
    have z : ((n : Int) != (n' : Int)) = true := by simp; omega
    have E := Lib.hid (show decide (xs = ys) = false from decide_eq_false fun e => hnn (by rw [← HL.out.1, ← HL.out.2, e]))
    clear hnn
    go_enter Try.func13, Try.ntmps13
    go_wp2
    go_ret
    exact ⟨ret_bool E.out.symm, Below.refl _ _⟩
  obtain rfl : n = n' := hnn
  go_enter Try.func13, Try.ntmps13
  go_wp2
  go_loopw [5] (fun i wr => ∃ k : Nat, k ≤ n ∧ i = .int .i64 k ∧ (∀ j, j < k → nthD xs j = nthD ys j) ∧ Below w.heap.size w wr) (fun i _ => n - (intOf i).toNat)
  case atStart => exact ⟨0, Nat.zero_le _, rfl, fun i hi => by omega, Below.refl _ _⟩
  case round =>
    obtain ⟨k, hk, rfl, hok, hb⟩ := hrel
    have HK := Lib.hid (show _ ∧ _ from ⟨hok, hb⟩); clear hok hb
    by_cases hlt : k < n
    case neg =>
      obtain rfl : k = n := by omega
      have E := Lib.hid (show decide (xs = ys) = true from decide_eq_true (list_eq_atD (by rw [HL.out.1, HL.out.2]) fun j hj => HK.out.1 j (by rw [← HL.out.1]; exact hj)))
      go_wp2
      go_ret
      exact ⟨ret_bool E.out.symm, HK.out.2⟩
    obtain ⟨rfl, hbw⟩ := HM.out.1.2.1 (by omega)
    obtain ⟨rfl, hbw'⟩ := HM.out.2.2.1 (by omega)
    obtain ⟨c0, c1, c2, c3⟩ := (HM.out.1.grown HK.out.2).2.2 k hlt
    obtain ⟨d0, d1, d2, d3⟩ := (HM.out.2.grown HK.out.2).2.2 k hlt
    have hne := fun h => list_ne_atD (xs := xs) (ys := ys) (k := k) h
    have hnx : ∀ j, j < k + 1 → nthD xs k = nthD ys k → nthD xs j = nthD ys j := fun j hj h => by
      by_cases e : j = k
      · subst e; exact h
      · exact HK.out.1 j (by omega)
    generalize hx : nthD xs k = x at *
    generalize hy : nthD ys k = y at *
    have HX := Lib.hid (show _ ∧ _ from ⟨hne, hnx⟩)
    clear hx hy hne hnx
    have hrun := run_neq_D x y
    obtain ⟨x0, x1, x2, x3⟩ := x
    obtain ⟨y0, y1, y2, y3⟩ := y
    dsimp only at c0 c1 c2 c3 d0 d1 d2 d3
    replace c0 := cell_regrown c0; replace c1 := cell_regrown c1; replace c2 := cell_regrown c2; replace c3 := cell_regrown c3
    replace d0 := cell_regrown d0; replace d1 := cell_regrown d1; replace d2 := cell_regrown d2; replace d3 := cell_regrown d3
    dsimp only [encD] at hrun
    by_cases q : ((x0, x1, x2, x3) : Dt) = (y0, y1, y2, y3)
    · rw [decide_eq_true q] at hrun
      have HQ := Lib.hid q
      clear q
      go_wp2
      refine wp_region_quiet_below (by kernel_rfl) (by kernel_rfl) ?_
      repeat (go_big_quiet_step ((fail)))
      refine wpQuiet_nil ?_
      intro WQ hq'
      have hq := of_regrown hq'
      clear hq'
      go_wp2
      go_roundw
      case rel => exact ⟨k + 1, by omega, by go_num, fun j hj => HX.out.2 j hj HQ.out, below_after HK.out.2 hq HK.out.2.size⟩
      case measure => simp [intOf]; omega
    · rw [decide_eq_false q] at hrun
      have E := Lib.hid (show decide (xs = ys) = false from decide_eq_false (HX.out.1 q))
      clear q
      go_wp2
      refine wp_region_quiet_below (by kernel_rfl) (by kernel_rfl) ?_
      repeat (go_big_quiet_step ((fail)))
      refine wpQuiet_nil ?_
      intro WQ hq'
      have hq := of_regrown hq'
      clear hq'
      go_wp2
      go_ret
      exact ⟨ret_bool E.out.symm, below_after HK.out.2 hq HK.out.2.size⟩

theorem info_u8 : (Try.prog.info? 5).map (fun i => (i.zero, i.size, i.bytes)) = some (some (.int .u8 0), 1, 1) := by kernel_rfl
theorem map_at (L : List Int) {i : Nat} (h : i < L.length) : (bV L)[i]? = some (.int .u8 (L.getD i 0)) := by
  simp [bV, h]
theorem eq_items (x y : List Int) (w : World) : ∀ (is : List Nat), (∀ i ∈ is, i < x.length ∧ i < y.length) → 
    (Op.eqItems 9999 5 1 (bV x) (bV y) is).run Try.prog w = .ok (is.all fun i => x.getD i 0 == y.getD i 0) w
  | [], _ => by simp [Op.eqItems]
  | i :: is, h => by
    have h1 := h i (by simp)
    have e1 : (bV x)[i * 1]? = some (.int .u8 (x.getD i 0)) := by rw [Nat.mul_one]; exact map_at x h1.1
    have e2 : (bV y)[i * 1]? = some (.int .u8 (y.getD i 0)) := by rw [Nat.mul_one]; exact map_at y h1.2
    have p1 := run_part_plain (P := Try.prog) (w := w) (e := 5) (by kernel_rfl) e1
    have p2 := run_part_plain (P := Try.prog) (w := w) (e := 5) (by kernel_rfl) e2
    have ih := eq_items x y w is fun j hj => h j (by simp [hj])
    have q := run_equalIn_int (P := Try.prog) (w := w) 9998 5 .u8 .u8 (x.getD i 0) (y.getD i 0) Try.underlying5
    simp only [Op.eqItems, Sem.run_bind, p1, p2, q, Result.andThen_ok, List.all_cons]
    cases hq : (x.getD i 0 == y.getD i 0)
    · simp
    · simpa using ih
set_option maxRecDepth 100000 in
theorem run_eq_dg (x y : List Int) (hx : x.length = 32) (hy : y.length = 32) (w : World) :
    (Op.equalIn 10000 34 (.agg (bV x)) (.agg (bV y))).run Try.prog w = .ok (decide (x = y)) w := by
  obtain ⟨i0, hi, _⟩ := info_parts info_u8
  have := run_equalIn_array (P := Try.prog) (w := w) 9999 (bV x) (bV y) Try.underlying34 hi
  rw [this]
  have hc : Try.prog.cellsOf 5 = 1 := by kernel_rfl
  rw [hc, eq_items x y w _ (fun i hi => by rw [hx, hy]; simpa using hi)]
  congr 1
  rw [Bool.eq_iff_iff, List.all_eq_true, decide_eq_true_iff]
  constructor
  · intro h
    refine List.ext_getElem (hx.trans hy.symm) fun i h1 h2 => ?_
    have := h i (by simp; omega)
    rw [List.getD_eq_getElem?_getD, List.getD_eq_getElem?_getD, List.getElem?_eq_getElem h1, List.getElem?_eq_getElem h2] at this
    simpa using this
  · rintro rfl i _
    simp

theorem wpList_open {P : Program} {ops : Array Oper} {o : Oper} {a : Act} {Q : Exit → Act → World → Prop} {w : World} {rest : List Oper} (hw : Region.wanted o (yielded ops a.tmps) = true)
    (h : ∀ K : Act → World → Prop, (∀ a w, wpList P ops Q rest a w → K a w) → o.wp P a w K Q) : wpList P ops Q (o :: rest) a w :=
  wpList_step fun K hK => by simp only [hw, if_true]; exact h K hK
theorem wpList_mid_open {P : Program} {ops : Array Oper} {op : Oper} {a : Act} {Q : Exit → Act → World → Prop} {w : World} {rest : List Oper} (hw : Region.wanted op (yielded ops a.tmps) = true) (ty : TypeId) (x : Operand) (ho : op.op = .load ty x)
    (b o : Nat) (hx : a.eval x = .pointer (some ⟨b, o, none⟩)) (cs : List Value) (d : TypeDesc) (hc : w.rangeAt b o cs)
    (hu : P.underlying ty = some d) (hd : d.isRow = true) (hi : (P.info? ty).map (·.size) = some cs.length) (h : wpList P ops Q rest (a.put op.dst (.agg cs.toArray)) w) : wpList P ops Q (op :: rest) a w :=
  wpList_open hw fun _ hK => wp_load_mid ty x ho b o hx cs d hc hu hd hi (hK _ _ h)
theorem range_in {w : World} {g off : Nat} {cs vs : List Value} {t : TypeId} {fr : Nat × Nat} (hg : w.heap[g]? = some (.cells cs.toArray t fr)) (h : ∀ j v, vs[j]? = some v → cs[off + j]? = some v) : w.rangeAt g off vs := fun j v hv => by
  rw [blk_cell hg]
  simpa using h j v hv
theorem clipL_dg {D : List Int} {f n : Int} {j : Nat} {v : Value} (h : (D.map (Value.int .u8))[j]? = some v) : (clipL D f n)[1 + j]? = some v := by
  unfold clipL
  rw [Nat.add_comm, List.getElem?_cons_succ, List.getElem?_append_left (List.getElem?_eq_some_iff.1 h).1]
  exact h
theorem clipL_tl {D : List Int} (hD : D.length = 32) (f n : Int) (j : Nat) : (clipL D f n)[33 + j]? = ([.int .i64 f, .int .i64 n, .int .i64 0, .int .i64 0, .slice none 0 0, .slice none 0 0] : List Value)[j]? := by
  unfold clipL
  rw [show 33 + j = 32 + j + 1 by omega, List.getElem?_cons_succ, List.getElem?_append_right (by simp [hD]), List.length_map, hD, show 32 + j - 32 = j by omega]
set_option maxRecDepth 100000 in
set_option maxHeartbeats 8000000 in
theorem same28_t (D : List Int) (hD : D.length = 32) (f n : Int) (w : World) :
    Calls Try.prog 18 #[.agg (clipL D f n).toArray, .agg (clipL D f n).toArray] w fun e w' => e = .returned (.bool true) ∧ Below w.heap.size w w' := by
  have hrun := fun w => (run_eq_dg D D hD hD w).trans (by rw [decide_eq_true rfl])
  unfold bV at hrun
  obtain ⟨W, hW⟩ : ∃ W, W = (w.alloc (.cells (clipL D f n).toArray 41)).alloc (.cells (clipL D f n).toArray 41) := ⟨_, rfl⟩
  have hB : Below w.heap.size w W := by rw [hW]; go_grown
  have h1 : W.heap[w.heap.size]? = some (.cells (clipL D f n).toArray 41 (0, 0)) := by rw [hW]; exact blk_alloc (blk_new _ _) _
  have h2 : W.heap[w.heap.size + 1]? = some (.cells (clipL D f n).toArray 41 (0, 0)) := by rw [hW]; have := blk_new (w.alloc (.cells (clipL D f n).toArray 41)) (.cells (clipL D f n).toArray 41); rwa [World.size_alloc] at this
  have r1 : W.rangeAt w.heap.size 1 (D.map (Value.int .u8)) := range_in h1 fun j v hv => clipL_dg hv
  have r2 : W.rangeAt (w.heap.size + 1) 1 (D.map (Value.int .u8)) := range_in h2 fun j v hv => clipL_dg hv
  have c0 : W.cell? ⟨w.heap.size, 0, none⟩ = some (.int .i64 1) := (blk_cell h1 0).trans (by simp [clipL])
  have e0 : W.cell? ⟨w.heap.size + 1, 0, none⟩ = some (.int .i64 1) := (blk_cell h2 0).trans (by simp [clipL])
  have c33 : W.cell? ⟨w.heap.size, 33, none⟩ = some (.int .i64 f) := (blk_cell h1 33).trans (by simpa using clipL_tl hD f n 0)
  have e33 : W.cell? ⟨w.heap.size + 1, 33, none⟩ = some (.int .i64 f) := (blk_cell h2 33).trans (by simpa using clipL_tl hD f n 0)
  have c34 : W.cell? ⟨w.heap.size, 34, none⟩ = some (.int .i64 n) := (blk_cell h1 34).trans (by simpa using clipL_tl hD f n 1)
  have e34 : W.cell? ⟨w.heap.size + 1, 34, none⟩ = some (.int .i64 n) := (blk_cell h2 34).trans (by simpa using clipL_tl hD f n 1)
  have c35 : W.cell? ⟨w.heap.size, 35, none⟩ = some (.int .i64 0) := (blk_cell h1 35).trans (by simpa using clipL_tl hD f n 2)
  have e35 : W.cell? ⟨w.heap.size + 1, 35, none⟩ = some (.int .i64 0) := (blk_cell h2 35).trans (by simpa using clipL_tl hD f n 2)
  have c36 : W.cell? ⟨w.heap.size, 36, none⟩ = some (.int .i64 0) := (blk_cell h1 36).trans (by simpa using clipL_tl hD f n 3)
  have e36 : W.cell? ⟨w.heap.size + 1, 36, none⟩ = some (.int .i64 0) := (blk_cell h2 36).trans (by simpa using clipL_tl hD f n 3)
  have c37 : W.cell? ⟨w.heap.size, 37, none⟩ = some (.slice none 0 0) := (blk_cell h1 37).trans (by simpa using clipL_tl hD f n 4)
  have e37 : W.cell? ⟨w.heap.size + 1, 37, none⟩ = some (.slice none 0 0) := (blk_cell h2 37).trans (by simpa using clipL_tl hD f n 4)
  have c38 : W.cell? ⟨w.heap.size, 38, none⟩ = some (.slice none 0 0) := (blk_cell h1 38).trans (by simpa using clipL_tl hD f n 5)
  have e38 : W.cell? ⟨w.heap.size + 1, 38, none⟩ = some (.slice none 0 0) := (blk_cell h2 38).trans (by simpa using clipL_tl hD f n 5)
  clear h1 h2
  have hsz : (D.map (Value.int .u8)).length = 32 := by rw [List.length_map, hD]
  go_enter Try.func18, Try.ntmps18
  go_upto_region 1 with fail
  rw [← hW]
  clear hW
  go_wp2_with (first | (with_reducible refine halt_at (o := ⟨some 14, _, _, _, _, _⟩) ?_))
  unfold Halt
  refine wpList_mid_open (by kernel_rfl) 34 (.tmp 13) rfl w.heap.size 1 rfl _ _ r1 Try.underlying34 rfl (by rw [hsz]; kernel_rfl) ?_
  go_wp2_with (first | (with_reducible refine halt_at (o := ⟨some 16, _, _, _, _, _⟩) ?_))
  unfold Halt
  refine wpList_mid_open (by kernel_rfl) 34 (.tmp 15) rfl (w.heap.size + 1) 1 rfl _ _ r2 Try.underlying34 rfl (by rw [hsz]; kernel_rfl) ?_
  go_wp2
  go_loopw [5] (fun i wr => i = .int .i64 0 ∧ wr = W) (fun i _ => 0)
  case atStart => exact ⟨rfl, rfl⟩
  case round =>
    obtain ⟨rfl, hwr⟩ := hrel
    subst wr
    go_wp2
    go_loopw [6] (fun i wr => i = .int .i64 0 ∧ wr = W) (fun i _ => 0)
    case atStart => exact ⟨rfl, rfl⟩
    case round =>
      obtain ⟨rfl, hwr⟩ := hrel
      subst wr
      go_wp2
      go_ret
      exact ⟨rfl, hB⟩
end Go.Proofs.Ythnhnmmabjmjgaa
