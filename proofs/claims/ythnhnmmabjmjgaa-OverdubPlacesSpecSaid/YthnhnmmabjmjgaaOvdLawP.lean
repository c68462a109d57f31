/- OverdubPlacesSpec (layer 44). -/
import Derived.Test.YthnhnmmabjmjgaaOvdLawA
import Derived.Test.YthnhnmmabjmjgaaRPlc
import Derived.Test.YthnhnmmabjmjgaaOpenDg
namespace Go.Proofs.Ythnhnmmabjmjgaa
open Go.ChangeShapes Go.WideShapes Go.ChangeAt Go.RowKit Go.Shelf Go.Sort

theorem rplaces_e {s : Sl} {l : List Dt} (D : List Int) (hD : D.length = 32) {c : Int} {L : List Pt} (w : World) (hL : plcS l = (c, L)) (h : DsV w s l) :
    Calls Try.prog 17 #[vS s, .agg (bV D)] w fun e w' => ∃ s' : Sl, e = .returned (.tuple #[vS s', .int .i64 c]) ∧ PlV D w' s' L ∧ Below w.heap.size w w' := by
  obtain ⟨b, off, h1, h2⟩ := h
  have := rplaces_any s.1 s.2.1 s.2.2 b off l D hD w h1 h2
  rw [hL] at this
  refine this.mono ?_
  rintro e w' ⟨v, rfl, hO, hb⟩
  obtain ⟨a, b', c, rfl, hs, -⟩ := hO.s hD
  exact ⟨(a, L.length, c), rfl, ⟨b', hs⟩, hb⟩
theorem plcS_len (l : List Dt) : (plcS l).2.length ≤ 256 := by
  unfold plcS
  split
  · simp
  · split
    · simp only [plTo_len]; omega
    · simp
theorem clipL_len {D : List Int} (hD : D.length = 32) (f n : Int) : (clipL D f n).length = 39 := by simp [clipL, hD]
theorem range_bel {w w' : World} {b off : Nat} {cs : List Value} (h : w.rangeAt b off cs) (hb : Below w.heap.size w w') (hl : b < w.heap.size) : w'.rangeAt b off cs := fun j v hv => (hb.cell (p := ⟨b, off + j, none⟩) hl).trans (h j v hv)
theorem wpQuiet_load_mid {P : Program} {ops : Array Oper} {C : World → Prop} {Q : Act → Prop} {o : Oper} {rest : List Oper} {a : Act} (hw : Region.wanted o (yielded ops a.tmps) = true) (ty : TypeId) (x : Operand) (ho : o.op = .load ty x)
    (b off : Nat) (hx : a.eval x = .pointer (some ⟨b, off, none⟩)) (cs : List Value) (d : TypeDesc) (hc : ∀ w, C w → w.rangeAt b off cs)
    (hu : P.underlying ty = some d) (hd : d.isRow = true) (hi : (P.info? ty).map (·.size) = some cs.length) (h : wpQuiet P ops C Q rest (a.put o.dst (.agg cs.toArray))) : wpQuiet P ops C Q (o :: rest) a := by
  unfold wpQuiet
  rw [if_pos hw]
  refine ⟨.agg cs.toArray, fun w hC => ?_, h⟩
  unfold Oper.quietAt execOp
  simp only [ho, hx, Instr.loadAt, Instr.sureAddr, Sem.run_bind, Sem.run_pure, Result.andThen_ok, run_loadVar_mid w b off ty cs d (hc w hC) hu hd hi]
  first | exact ⟨hC, rfl⟩ | exact ⟨rfl, rfl, hC⟩ | exact ⟨rfl, rfl⟩
set_option maxRecDepth 100000 in
set_option maxHeartbeats 8000000 in
theorem places_walk (s : Sl) (l : List Dt) (D : List Int) (hD : D.length = 32) (w : World) (hs : DsV w s l) :
    Calls Try.prog 5 #[vS s, .agg (bV D)] w fun e w' => e = .returned (.bool true) ∧ Below w.heap.size w w' := by
  obtain ⟨W0, hW0⟩ : ∃ W0, W0 = w.alloc (.cells (bV D) 34) := ⟨_, rfl⟩
  have hB0 : Below w.heap.size w W0 := by rw [hW0]; go_grown
  have hD0 : W0.heap[w.heap.size]? = some (.cells (bV D) 34 (0, 0)) := by rw [hW0]; exact blk_new _ _
  have H0 := Lib.hid (show _ ∧ _ ∧ _ from ⟨hB0, hs.grown hB0, hD0⟩)
  clear hs hB0 hD0
  obtain ⟨sa, sn, sc⟩ := s
  dsimp only [vS]
  go_enter Try.func5, Try.ntmps5
  go_upto_region 1 with fail
  rw [← hW0]
  clear hW0
  go_wp2_with fail
  refine (sane_any W0).mono ?_
  rintro e W1 ⟨rfl, hb⟩
  have H1 := Lib.hid (show _ ∧ _ ∧ _ from ⟨below_after H0.out.1 hb H0.out.1.size, H0.out.2.1.grown hb, blk_below H0.out.2.2 hb (Array.getElem?_eq_some_iff.1 H0.out.2.2).1⟩)
  clear H0
  clear hb
  by_cases q0 : 300 < sn
  · have z0 : decide ((sn : Int) > 300) = true := decide_eq_true (by omega)
    go_wp2
    exact bodyPost_ret (v := .bool true) (by simp [results, Try.results5, go_sem]) rfl ⟨rfl, H1.out.1⟩
  have z0 : decide ((sn : Int) > 300) = false := decide_eq_false (by omega)
  go_upto_region 5 with fail
  clear z0
  go_wp2_with (first | (with_reducible refine halt_at (o := ⟨some 17, _, _, _, _, _⟩) ?_))
  unfold Halt
  refine wpList_load_row rfl _ (.tmp 3) rfl w.heap.size rfl 34 (bV D) (0, 0) _ H1.out.2.2 Try.underlying34 rfl (by rw [bV_size, hD]; kernel_rfl) ?_
  obtain ⟨c, hc⟩ : ∃ c, c = (plcS l).1 := ⟨_, rfl⟩
  obtain ⟨L, hL⟩ : ∃ L, L = (plcS l).2 := ⟨_, rfl⟩
  obtain ⟨m, hm⟩ : ∃ m, m = L.length := ⟨_, rfl⟩
  have hm2 : m ≤ 256 := by rw [hm, hL]; exact plcS_len l
  have HL := Lib.hid (show plcS l = (c, L) from by rw [hc, hL])
  have HM := Lib.hid hm
  clear hc hL hm
  go_wp2_with fail
  refine (places_e (s := (sa, sn, sc)) D hD W1 HL.out H1.out.2.1).mono ?_
  rintro e W2 ⟨⟨ax, nx, cx⟩, rfl, hA, hb⟩
  have H2 := Lib.hid (show _ ∧ _ ∧ _ ∧ _ from ⟨below_after H1.out.1 hb H1.out.1.size, H1.out.2.1.grown hb, blk_below H1.out.2.2 hb (Array.getElem?_eq_some_iff.1 H1.out.2.2).1, hA⟩)
  clear H1
  clear hb
  obtain rfl : nx = m := hA.len.trans HM.out.symm
  clear hA
  go_wp2_with (first | (with_reducible refine halt_at (o := ⟨some 23, _, _, _, _, _⟩) ?_))
  unfold Halt
  refine wpList_load_row rfl _ (.tmp 3) rfl w.heap.size rfl 34 (bV D) (0, 0) _ H2.out.2.2.1 Try.underlying34 rfl (by rw [bV_size, hD]; kernel_rfl) ?_
  go_wp2_with fail
  refine (rplaces_e (s := (sa, sn, sc)) D hD W2 HL.out H2.out.2.1).mono ?_
  rintro e W3 ⟨⟨ay, ny, cy⟩, rfl, hA, hb⟩
  have H3 := Lib.hid (show _ ∧ _ ∧ _ ∧ _ ∧ _ from ⟨below_after H2.out.1 hb H2.out.1.size, H2.out.2.1.grown hb, blk_below H2.out.2.2.1 hb (Array.getElem?_eq_some_iff.1 H2.out.2.2.1).1, H2.out.2.2.2.grown hb, hA⟩)
  clear H2
  clear hb
  have HY0 := Lib.hid (show ny = nx from hA.len.trans HM.out.symm)
  obtain rfl := HY0.out
  clear hA HY0
  have zc : (c != c) = false := by simp
  have zn : ((ny : Int) != (ny : Int)) = false := by simp
  go_wp2
  clear zc zn
  go_loopw [39] (fun i wr => ∃ k : Nat, k ≤ ny ∧ i = .int .i64 k ∧ Below W3.heap.size W3 wr) (fun i _ => ny - (intOf i).toNat)
  case atStart => exact ⟨0, Nat.zero_le _, rfl, Below.refl _ _⟩
  case round =>
    obtain ⟨k, hk, rfl, hb⟩ := hrel
    by_cases hlt : k < ny
    case neg =>
      have HB := Lib.hid (below_after H3.out.1 hb H3.out.1.size)
      have z1 : decide ((k : Int) < (ny : Int)) = false := decide_eq_false (by omega)
      clear hb
      go_wp2
      exact bodyPost_ret (v := .bool true) (by simp [results, Try.results5, go_sem]) rfl ⟨rfl, HB.out⟩
    have z1 : decide ((k : Int) < (ny : Int)) = true := decide_eq_true (by omega)
    obtain ⟨bx, hx⟩ := H3.out.2.2.2.1.grown hb
    obtain ⟨by', hy⟩ := H3.out.2.2.2.2.grown hb
    dsimp only at hx hy
    obtain ⟨hxa, hxl⟩ := hx.2.1 (by omega)
    obtain ⟨hya, hyl⟩ := hy.2.1 (by omega)
    subst hxa
    subst hya
    obtain ⟨d0, d1, d2, d3⟩ := hx.cells hD hlt
    obtain ⟨e0, e1, e2, e3⟩ := hy.cells hD hlt
    generalize nthP L k = p at *
    obtain ⟨p0, p1, p2, p3⟩ := p
    dsimp only at d0 d2 d3 e0 e2 e3
    have zz : ∀ z : Int, (z != z) = false := fun z => by simp
    have z2 := zz p0
    have z3 := zz 0
    have z4 := zz p1
    replace d0 := cell_regrown d0; replace d1 := cell_regrown d1; replace d2 := cell_regrown d2
    replace e0 := cell_regrown e0; replace e1 := cell_regrown e1; replace e2 := cell_regrown e2
    have HR := Lib.hid (show _ ∧ _ ∧ _ from ⟨d3, e3, hb⟩)
    clear d3 e3 hb hx hy zz
    dsimp only [vS]
    go_upto_region 12 with fail
    refine wp_region_quiet_below (by kernel_rfl) (by kernel_rfl) ?_
    repeat (go_big_quiet_step (fail))
    refine wpQuiet_load_mid (by kernel_rfl) 41 (.tmp 83) rfl bx (k * 42 + 3) rfl _ _ (fun w' hw' => by obtain ⟨p, rfl⟩ := hw'; exact range_bel HR.out.1 (below_regrown wr _ _) hxl) Try.underlying41 rfl (by rw [clipL_len hD]; kernel_rfl) ?_
    simp only [Act.put, List.setIfInBounds_toArray, List.set_cons_succ, List.set_cons_zero]
    repeat (go_big_quiet_step (fail))
    refine wpQuiet_load_mid (by kernel_rfl) 41 (.tmp 88) rfl by' (k * 42 + 3) rfl _ _ (fun w' hw' => by obtain ⟨p, rfl⟩ := hw'; exact range_bel HR.out.2.1 (below_regrown wr _ _) hyl) Try.underlying41 rfl (by rw [clipL_len hD]; kernel_rfl) ?_
    simp only [Act.put, List.setIfInBounds_toArray, List.set_cons_succ, List.set_cons_zero]
    repeat (go_big_quiet_step ((go_at_call 18; with_reducible exact Calls.regrown_of (same28_t D hD p2 p3 _))))
    refine wpQuiet_nil ?_
    intro Wq hbq'
    have hbq := of_regrown hbq'
    clear hbq' d0 d1 d2 e0 e1 e2 z2 z3 z4
    go_wp2
    go_roundw
    case rel => exact ⟨k + 1, by omega, by go_num, below_after HR.out.2.2 hbq HR.out.2.2.size⟩
    case measure => simp [intOf]; omega
end Go.Proofs.Ythnhnmmabjmjgaa
