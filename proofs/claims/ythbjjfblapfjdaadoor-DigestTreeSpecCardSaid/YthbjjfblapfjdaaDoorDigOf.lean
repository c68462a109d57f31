/- A slice of one digest (layer 2). -/
import Derived.Test.YthbjjfblapfjdaaDoorDigClimbA
import Derived.ChangeKeysEq
import Derived.Laws.StructEq
namespace Go.Proofs.YthbjjfblapfjdaaDoor
open Go.ChangeShapes Go.WideShapes Go.ChangeAt Go.RowKit
section
variable {ops : Array Oper} {o : Oper} {rest : List Oper} {a : Act} {Q : Exit → Act → World → Prop} {w : World}
theorem run_build_D (ev : Operand → Value) (x : Operand) (ho : o.op = .buildSlice 30 1 #[(0, x)]) (m : List Int) (hm : m.length = 32) (hx : ev x = .agg (bV m)) :
    (execOp ev o).run Tryd.prog w = .ok (.value (.slice (some ⟨w.heap.size, 0, none⟩) 1 1)) (w.alloc (.cells (bV m) 26)) := by
  unfold execOp
  simp only [ho]
  simp only [List.map_toArray, List.map_cons, List.map_nil, hx]
  go_simp
  simp only [bV_size32 hm, build32 m hm]
  go_simp
theorem wp_build_D {K : Act → World → Prop} (x : Operand) (ho : o.op = .buildSlice 30 1 #[(0, x)]) (m : List Int) (hm : m.length = 32) (hx : a.eval x = .agg (bV m))
    (h : K (a.put o.dst (.slice (some ⟨w.heap.size, 0, none⟩) 1 1)) (w.alloc (.cells (bV m) 26))) : o.wp Tryd.prog a w K Q := by
  unfold Oper.wp
  rw [run_build_D a.eval x ho m hm hx]
  exact h
theorem wpList_build_D (hgd : o.guard = none) (x : Operand) (ho : o.op = .buildSlice 30 1 #[(0, x)]) (m : List Int) (hm : m.length = 32) (hx : a.eval x = .agg (bV m))
    (h : wpList Tryd.prog ops Q rest (a.put o.dst (.slice (some ⟨w.heap.size, 0, none⟩) 1 1)) (w.alloc (.cells (bV m) 26))) : wpList Tryd.prog ops Q (o :: rest) a w :=
  wpList_plain hgd fun _ hK => wp_build_D x ho m hm hx (hK _ _ h)
end
end Go.Proofs.YthbjjfblapfjdaaDoor
/- Digests compared (layer 2). -/
namespace Go.Proofs.YthbjjfblapfjdaaDoor
open Go.ChangeShapes Go.WideShapes Go.ChangeAt Go.RowKit
theorem eq_items (x y : List Int) (w : World) : ∀ (is : List Nat), (∀ i ∈ is, i < x.length ∧ i < y.length) → 
    (Op.eqItems 9999 5 1 (bV x) (bV y) is).run Tryd.prog w = .ok (is.all fun i => x.getD i 0 == y.getD i 0) w
  | [], _ => by simp [Op.eqItems]
  | i :: is, h => by
    have h1 := h i (by simp)
    have e1 : (bV x)[i * 1]? = some (.int .u8 (x.getD i 0)) := by rw [Nat.mul_one]; exact map_at x h1.1
    have e2 : (bV y)[i * 1]? = some (.int .u8 (y.getD i 0)) := by rw [Nat.mul_one]; exact map_at y h1.2
    have p1 := run_part_plain (P := Tryd.prog) (w := w) (e := 5) (by kernel_rfl) e1
    have p2 := run_part_plain (P := Tryd.prog) (w := w) (e := 5) (by kernel_rfl) e2
    have ih := eq_items x y w is fun j hj => h j (by simp [hj])
    have q := run_equalIn_int (P := Tryd.prog) (w := w) 9998 5 .u8 .u8 (x.getD i 0) (y.getD i 0) Tryd.underlying5
    simp only [Op.eqItems, Sem.run_bind, p1, p2, q, Result.andThen_ok, List.all_cons]
    cases hq : (x.getD i 0 == y.getD i 0)
    · simp
    · simpa using ih
theorem run_eq_D (x y : List Int) (hx : x.length = 32) (hy : y.length = 32) (w : World) :
    (Op.equalIn 10000 26 (.agg (bV x)) (.agg (bV y))).run Tryd.prog w = .ok (decide (x = y)) w := by
  obtain ⟨i0, hi, _⟩ := info_parts info_u8
  have := run_equalIn_array (P := Tryd.prog) (w := w) 9999 (bV x) (bV y) Tryd.underlying26 hi
  rw [this]
  have hc : Tryd.prog.cellsOf 5 = 1 := by kernel_rfl
  rw [hc, eq_items x y w _ (fun i hi => by rw [hx, hy]; simpa using hi)]
  congr 1
  rw [Bool.eq_iff_iff, List.all_eq_true, decide_eq_true_iff]
  constructor
  · intro h
    refine List.ext_getElem (hx.trans hy.symm) fun i h1 h2 => ?_
    have := h i (by simp; omega)
    rw [List.getD_eq_getElem?_getD, List.getD_eq_getElem?_getD, List.getElem?_eq_getElem h1, List.getElem?_eq_getElem h2] at this
    simpa using this
  · rintro rfl i _
    simp
end Go.Proofs.YthbjjfblapfjdaaDoor
/- The reference's Same (layer 2). -/
namespace Go.Proofs.YthbjjfblapfjdaaDoor
open Go.ChangeShapes Go.WideShapes Go.ChangeAt Go.RowKit
theorem list_first {l l' : List (List Int)} (hl : l.length = l'.length) (h : ∀ j, j < l.length → l.getD j [] = l'.getD j []) : l = l' := by
  refine List.ext_getElem hl fun i h1 h2 => ?_
  have := h i h1
  rwa [List.getD_eq_getElem?_getD, List.getD_eq_getElem?_getD, List.getElem?_eq_getElem h1, List.getElem?_eq_getElem h2] at this
def AllSame (l l' : List (List Int)) (k : Nat) : Prop := ∀ j, j < k → l.getD j [] = l'.getD j []
set_option maxRecDepth 100000 in
set_option maxHeartbeats 4000000 in
theorem same_any (a a' : Option Addr) (b off n cap b' off' n' cap' : Nat) (l l' : List (List Int)) (w : World) (h : DigR w a b off n l) (h' : DigR w a' b' off' n' l') (hn : n ≤ 1000000) :
    Calls Tryd.prog 21 #[.slice a n cap, .slice a' n' cap'] w fun e w' => e = .returned (.bool (decide (l = l'))) ∧ Below w.heap.size w w' := by
  have hl := h.len
  have hl' := h'.len
  by_cases hnn : n = n'
  · subst hnn
    have HR := Lib.hid (show _ ∧ _ from ⟨h, h'⟩)
    have HL := Lib.hid (show _ ∧ _ from ⟨hl, hl'⟩)
    clear h h' hl hl'
    go_enter Tryd.func21, Tryd.ntmps21
    go_wp2_with fail
    go_loopw [5] (fun v wr => ∃ k : Nat, k ≤ n ∧ Hid (AllSame l l' k) ∧ v = .int .i64 k ∧ Below w.heap.size w wr) (fun v _ => n - (intOf v).toNat)
    case atStart => exact ⟨0, Nat.zero_le _, Lib.hid (fun j hj => by omega), rfl, Below.refl _ _⟩
    case round =>
      obtain ⟨k, hk, HA, rfl, hB⟩ := hrel
      by_cases hlt : k < n
      · have i1 : (k : Int) < (n : Int) := by omega
        obtain rfl := HR.out.1.adr (by omega)
        obtain rfl := HR.out.2.adr (by omega)
        have i2 : ¬ (k : Int) < 0 := by omega
        have u1 : IntKind.i64.wrap ((k : Int) + 1) = ((k + 1 : Nat) : Int) := (wrap_id (by omega)).trans (by omega)
        have HB := Lib.hid hB
        clear hB
        obtain ⟨X, hX⟩ : ∃ X, X = l.getD k [] := ⟨_, rfl⟩
        obtain ⟨Y, hY⟩ : ∃ Y, Y = l'.getD k [] := ⟨_, rfl⟩
        have hXl : X.length = 32 := by rw [hX]; exact HR.out.1.dig k hlt
        have hYl : Y.length = 32 := by rw [hY]; exact HR.out.2.dig k hlt
        have HX := Lib.hid (show _ ∧ _ from ⟨hX, hY⟩)
        clear hX hY
        go_upto_region 6 with fail
        refine wp_region_from 0 9 (fun w' => Below w.heap.size w w') (by kernel_rfl) (by kernel_rfl) (by decide) (by kernel_rfl) HB.out.drew ?_
        simp only [List.drop_zero, List.take_succ_cons, List.take_zero]
        refine wpHeld_cons (.slice (some ⟨b, off, none⟩) n cap) (by kernel_rfl) ?_ ?_
        · rintro w' -
          try go_simp
        refine wpHeld_cons (.int .i64 k) (by kernel_rfl) ?_ ?_
        · rintro w' -
          try go_simp
        refine wpHeld_cons (.pointer (some ⟨b, off + k * 32, none⟩)) (by kernel_rfl) ?_ ?_
        · rintro w' -
          go_simp
          try (intro h; omega)
        refine wpHeld_load (.tmp 19) (by kernel_rfl) (by kernel_rfl) b (off + k * 32) (by kernel_rfl) X hXl (fun w' hS => by rw [HX.out.1]; exact ((HR.out.1.below hS (Nat.le_refl _)).elem hlt).range) ?_
        refine wpHeld_cons (.slice (some ⟨b', off', none⟩) n cap') (by kernel_rfl) ?_ ?_
        · rintro w' -
          try go_simp
        refine wpHeld_cons (.int .i64 k) (by kernel_rfl) ?_ ?_
        · rintro w' -
          try go_simp
        refine wpHeld_cons (.pointer (some ⟨b', off' + k * 32, none⟩)) (by kernel_rfl) ?_ ?_
        · rintro w' -
          go_simp
          try (intro h; omega)
        refine wpHeld_load (.tmp 23) (by kernel_rfl) (by kernel_rfl) b' (off' + k * 32) (by kernel_rfl) Y hYl (fun w' hS => by rw [HX.out.2]; exact ((HR.out.2.below hS (Nat.le_refl _)).elem hlt).range) ?_
        refine wpHeld_cons (.bool (!decide (X = Y))) (by kernel_rfl) ?_ ?_
        · rintro w' -
          go_simp
          rw [run_eq_D X Y hXl hYl]
          go_simp
        refine wpHeld_nil ?_
        refine wpAnyH_done (by kernel_rfl) ?_ _
        refine NoPanic.normal ?_
        go_simp
        by_cases he : X = Y
        · have e1 : decide (X = Y) = true := decide_eq_true he
          have HN := Lib.hid (show AllSame l l' (k + 1) from fun j hj => by
            rcases Nat.lt_succ_iff_lt_or_eq.1 hj with h | rfl
            · exact HA.out j h
            · exact HX.out.1.symm.trans (he.trans HX.out.2))
          clear HA
          rw [e1]
          clear he e1
          go_wp2
          go_roundw
          case rel => exact ⟨k + 1, hlt, HN, by go_num, HB.out.drew⟩
          case measure => simp [intOf]; omega
        · have e1 : decide (X = Y) = false := decide_eq_false he
          have HN := Lib.hid (show l ≠ l' from fun h => he (by rw [HX.out.1, HX.out.2, h]))
          clear HA
          rw [e1]
          clear he e1
          go_wp2
          go_ret
          exact ⟨by rw [decide_eq_false HN.out]; rfl, HB.out.drew⟩
      · obtain rfl : k = n := by omega
        have HN := Lib.hid (show l = l' from list_first (HL.out.1.trans HL.out.2.symm) (by rw [HL.out.1]; exact HA.out))
        clear HA
        go_wp2
        go_ret
        exact ⟨by rw [decide_eq_true HN.out]; rfl, hB⟩
  · have i1 : ((n : Int) != (n' : Int)) = true := by simp; omega
    have HN := Lib.hid (show l ≠ l' from fun h => hnn (by rw [← hl, ← hl', h]))
    clear h h' hl hl' hnn
    go_enter Tryd.func21, Tryd.ntmps21
    go_wp2
    go_ret
    exact ⟨by rw [decide_eq_false HN.out]; rfl, Below.refl _ _⟩
end Go.Proofs.YthbjjfblapfjdaaDoor
/- digestsOf (layer 2). -/
namespace Go.Proofs.YthbjjfblapfjdaaDoor
open Go.ChangeShapes Go.WideShapes Go.ChangeAt Go.RowKit
theorem wp_build_of {o : Oper} {a : Act} {w : World} {K : Act → World → Prop} {Q : Exit → Act → World → Prop} (parts : Array (Nat × Operand)) (ho : o.op = .build 26 parts) (vs : List (Nat × Value))
    (hv : (parts.map fun (i, x) => (i, a.eval x)).toList = vs) (m : List Int) (hb : Tryd.prog.built 26 vs = some (bV m)) (h : K (a.put o.dst (.agg (bV m))) w) : o.wp Tryd.prog a w K Q :=
  wp_build 26 parts ho (by rw [hv, hb]; rfl) (by rw [hv, hb]; exact h)
theorem wpList_build_of {ops : Array Oper} {rest : List Oper} {o : Oper} {a : Act} {w : World} {Q : Exit → Act → World → Prop} (hgd : o.guard = none) (parts : Array (Nat × Operand)) (ho : o.op = .build 26 parts) (vs : List (Nat × Value))
    (hv : (parts.map fun (i, x) => (i, a.eval x)).toList = vs) (m : List Int) (hb : Tryd.prog.built 26 vs = some (bV m)) (h : wpList Tryd.prog ops Q rest (a.put o.dst (.agg (bV m))) w) : wpList Tryd.prog ops Q (o :: rest) a w :=
  wpList_plain hgd fun _ hK => wp_build_of parts ho vs hv m hb (hK _ _ h)
theorem built0 : Tryd.prog.built 26 [] = some (bV zL) := by kernel_rfl
theorem built1 (p : Int) : Tryd.prog.built 26 [(0, .int .u8 p)] = some (bV (p :: List.replicate 31 0)) := by kernel_rfl
theorem built2 (p q : Int) : Tryd.prog.built 26 [(0, .int .u8 p), (1, .int .u8 q)] = some (bV (p :: q :: List.replicate 30 0)) := by kernel_rfl
def ofE (l : List Int) (i : Nat) : List Int := (l.getD i 0).tmod 4 :: ((i / 8 : Nat) : Int) :: List.replicate 30 0
def ofL (l : List Int) (n : Nat) : List (List Int) := (List.range n).map (ofE l)
theorem ofL_succ (l : List Int) (k : Nat) : ofL l (k + 1) = ofL l k ++ [ofE l k] := by simp [ofL, List.range_succ]
theorem ofL_len (l : List Int) (k : Nat) : (ofL l k).length = k := by simp [ofL]
theorem ofE_len (l : List Int) (k : Nat) : (ofE l k).length = 32 := by simp [ofE]
set_option maxRecDepth 100000 in
set_option maxHeartbeats 4000000 in
theorem of_any (a : Option Addr) (b off n cap : Nat) (l : List Int) (w : World) (h : RowB w a b off n l) (hn : n ≤ 9223372036854775807) :
    Calls Tryd.prog 16 #[.slice a n cap] w fun e w' => ∃ v, e = .returned v ∧ DgsO w' w.heap.size v (ofL l (min n 24)) ∧ Below w.heap.size w w' := by
  have HR := Lib.hid h
  clear h
  go_enter Tryd.func16, Tryd.ntmps16
  go_wp2_with fail
  go_loopw [3, 4] (fun v x wr => ∃ k : Nat, k ≤ n ∧ k ≤ 24 ∧ DgsO wr w.heap.size v (ofL l k) ∧ x = .int .i64 k ∧ Below w.heap.size w wr) (fun _ x _ => 24 - (intOf x).toNat)
  case atStart => exact ⟨0, Nat.zero_le _, by omega, DgsO.empty w, rfl, (Below.refl _ _).alloc (Nat.le_refl _) _⟩
  case round =>
    obtain ⟨k, hk, hk24, hO, rfl, hB⟩ := hrel
    have HO := Lib.hid (show _ ∧ _ from ⟨hO, hB⟩)
    clear hO hB
    by_cases h1 : k < n
    · have j1 : (k : Int) < (n : Int) := by omega
      by_cases h2 : k < 24
      · have j2 : (k : Int) < 24 := by omega
        have hc := HR.out.cel k h1
        obtain rfl := HR.out.adr (by omega)
        have hc := (HO.out.2.cell (p := ⟨b, off + k, none⟩) (HR.out.old (by omega))).trans hc
        have j3 : ¬ (k : Int) < 0 := by omega
        have u1 : IntKind.i64.wrap ((k : Int) + 1) = ((k + 1 : Nat) : Int) := (wrap_id (by omega)).trans (by omega)
        have hq : (k : Int).tdiv 8 = ((k / 8 : Nat) : Int) := by
          rw [Int.tdiv_eq_ediv_of_nonneg (by omega)]
          omega
        have u2 : IntKind.i64.wrap ((k / 8 : Nat) : Int) = ((k / 8 : Nat) : Int) := wrap_id (by omega)
        have z3 : IntKind.u8.wrap ((k / 8 : Nat) : Int) = ((k / 8 : Nat) : Int) := by rw [IntKind.wrap_u8]; omega
        go_wp2_with (with_reducible refine held (o := ⟨some 25, _, _, _, _, _⟩) ?_)
        unfold Held
        refine wpList_build_of rfl _ rfl _ (by kernel_rfl) (ofE l k) (built2 _ _) ?_
        refine wpList_build_D rfl (.tmp 25) rfl (ofE l k) (ofE_len l k) (by kernel_rfl) ?_
        have hnew := blk_new wr (.cells (bV (ofE l k)) 26)
        have hO2 := HO.out.1.alloc (.cells (bV (ofE l k)) 26)
        have hB2 := HO.out.2.alloc HO.out.2.size (.cells (bV (ofE l k)) 26)
        refine wpList_append_D rfl (.tmp 16) (.tmp 26) rfl w.heap.size u3 (ofL l k) (by kernel_rfl) hO2 wr.heap.size (ofE l k) (ofE_len l k) 1 (by kernel_rfl) _ _ hnew (by rw [ofL_len]; omega) hB2.size ?_
        intro v5 W5 hO5 hb5 _
        have HO5 := Lib.hid (show DgsO W5 w.heap.size v5 (ofL l (k + 1)) ∧ Below w.heap.size w W5 from ⟨by rw [ofL_succ]; exact hO5, below_trans' hB2 hb5⟩)
        clear hO5 hb5 hO2 hB2 hnew
        go_simp
        go_wp2
        go_roundw
        case rel => exact ⟨k + 1, h1, h2, HO5.out.1, by go_num, HO5.out.2⟩
        case measure => simp [intOf]; omega
      · have j2 : ¬ (k : Int) < 24 := by omega
        have HN := Lib.hid (show k = min n 24 by omega)
        go_wp2
        go_ret
        exact ⟨u3, rfl, by rw [← HN.out]; exact HO.out.1, HO.out.2⟩
    · have j1 : ¬ (k : Int) < (n : Int) := by omega
      have HN := Lib.hid (show k = min n 24 by omega)
      go_wp2
      go_ret
      exact ⟨u3, rfl, by rw [← HN.out]; exact HO.out.1, HO.out.2⟩
end Go.Proofs.YthbjjfblapfjdaaDoor
