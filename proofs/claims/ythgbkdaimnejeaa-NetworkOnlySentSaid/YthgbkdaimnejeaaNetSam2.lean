/- Same (layer 6). -/
import Derived.Test.YthgbkdaimnejeaaNetSame
import Derived.ChangeKeysEq
import Derived.Laws.StructEq
namespace Go.Proofs.Ythgbkdaimnejeaa
open Go.ChangeShapes Go.WideShapes Go.ChangeAt Go.RowKit Go.Sort Go.Shelf

def nthD (D : List ByteArray) (i : Nat) : ByteArray := D.getD i ByteArray.empty
structure Dats (w : World) (Q : List Kt) (D : List ByteArray) : Prop where
  len : D.length = Q.length
  dat : ∀ i, i < Q.length → DatR w (nthK Q i).2.2 (nthD D i)
theorem Dats.grown {w w' : World} {Q : List Kt} {D : List ByteArray} (h : Dats w Q D) (hb : Below w.heap.size w w') : Dats w' Q D := ⟨h.len, fun i hi => (h.dat i hi).grown hb⟩
def pkL (Q : List Kt) (D : List ByteArray) : List Pk := Q.zipWith pk D
theorem pkL_len {Q : List Kt} {D : List ByteArray} (h : D.length = Q.length) : (pkL Q D).length = Q.length := by unfold pkL; rw [List.length_zipWith, h, Nat.min_self]
theorem pkL_at {Q : List Kt} {D : List ByteArray} (h : D.length = Q.length) {i : Nat} (hi : i < Q.length) : (pkL Q D)[i]? = some (pk (nthK Q i) (nthD D i)) := by
  unfold pkL nthK nthD
  rw [List.getElem?_zipWith, List.getElem?_eq_getElem hi, List.getElem?_eq_getElem (show i < D.length by omega)]
  simp [List.getD_eq_getElem?_getD, hi, show i < D.length by omega]
theorem pkL_eq {Q Q' : List Kt} {D D' : List ByteArray} (h : D.length = Q.length) (h' : D'.length = Q'.length) (hl : Q.length = Q'.length) (he : ∀ i, i < Q.length → pk (nthK Q i) (nthD D i) = pk (nthK Q' i) (nthD D' i)) : pkL Q D = pkL Q' D' := by
  refine List.ext_getElem? fun i => ?_
  by_cases hi : i < Q.length
  · rw [pkL_at h hi, pkL_at h' (by omega), he i hi]
  · rw [List.getElem?_eq_none (by rw [pkL_len h]; omega), List.getElem?_eq_none (by rw [pkL_len h']; omega)]
theorem pkL_ne {Q Q' : List Kt} {D D' : List ByteArray} (h : D.length = Q.length) (h' : D'.length = Q'.length) {i : Nat} (hi : i < Q.length) (hi' : i < Q'.length) (he : pk (nthK Q i) (nthD D i) ≠ pk (nthK Q' i) (nthD D' i)) : pkL Q D ≠ pkL Q' D' := fun e => by
  have h1 := pkL_at h hi
  rw [e, pkL_at h' hi'] at h1
  exact he (Option.some.inj h1).symm
theorem qs_eq {A A' : List Qt} (hl : A.length = A'.length) (he : ∀ i, i < A.length → nthQ A i = nthQ A' i) : A = A' := by
  refine List.ext_getElem? fun i => ?_
  by_cases hi : i < A.length
  · have := he i hi
    unfold nthQ at this
    rw [List.getD_eq_getElem?_getD, List.getD_eq_getElem?_getD, List.getElem?_eq_getElem hi, List.getElem?_eq_getElem (show i < A'.length by omega)] at this
    rw [List.getElem?_eq_getElem hi, List.getElem?_eq_getElem (show i < A'.length by omega)]
    exact congrArg some this
  · rw [List.getElem?_eq_none (by omega), List.getElem?_eq_none (by omega)]
def SameN (Q : List Kt) (D : List ByteArray) (A : List Qt) (Q' : List Kt) (D' : List ByteArray) (A' : List Qt) : Prop := pkL Q D = pkL Q' D' ∧ A = A'
instance (Q : List Kt) (D : List ByteArray) (A : List Qt) (Q' : List Kt) (D' : List ByteArray) (A' : List Qt) : Decidable (SameN Q D A Q' D' A') := by unfold SameN; infer_instance
theorem samePacket_t (m m' : Kt) (S S' : ByteArray) (w : World) (h : DatR w m.2.2 S) (h' : DatR w m'.2.2 S') (e : pk m S = pk m' S') : Calls Try.prog 22 #[vK m, vK m'] w fun e w' => e = .returned (.bool true) ∧ Below w.heap.size w w' := by have := samePacket_any m m' S S' w h h'; rwa [decide_eq_true e] at this
theorem samePacket_f (m m' : Kt) (S S' : ByteArray) (w : World) (h : DatR w m.2.2 S) (h' : DatR w m'.2.2 S') (e : ¬ pk m S = pk m' S') : Calls Try.prog 22 #[vK m, vK m'] w fun e w' => e = .returned (.bool false) ∧ Below w.heap.size w w' := by have := samePacket_any m m' S S' w h h'; rwa [decide_eq_false e] at this
theorem info_intQ : (Try.prog.info? 3).map (fun i => (i.zero, i.size, i.bytes)) = some (some (.int .i64 0), 1, 8) := by kernel_rfl
theorem run_eqQ (x y : Qt) (w : World) : (Op.equalIn 10000 55 (.agg (encQ x).toArray) (.agg (encQ y).toArray)).run Try.prog w = .ok (decide (x = y)) w := by
  obtain ⟨x0, x1⟩ := x
  obtain ⟨y0, y1⟩ := y
  dsimp only [encQ]
  obtain ⟨i0, hi, _⟩ := info_parts info_intQ
  rw [run_equalIn_array (P := Try.prog) (w := w) 9999 _ _ Try.underlying55 hi]
  have hc : Try.prog.cellsOf 3 = 1 := by kernel_rfl
  have hp := fun (b0 b1 : Int) (i : Nat) v (h : (#[Value.int .i64 b0, .int .i64 b1])[i]? = some v) => run_part_plain (P := Try.prog) (w := w) (e := 3) (by kernel_rfl) h
  have q : ∀ a b : Int, (Op.equalIn 9999 3 (.int .i64 a) (.int .i64 b)).run Try.prog w = .ok (a == b) w := fun a b => run_equalIn_int (P := Try.prog) (w := w) 9998 3 .i64 .i64 a b Try.underlying3
  have p1 : ∀ b0 b1 : Int, _ := fun b0 b1 => hp b0 b1 1 _ rfl
  rw [hc]
  simp only [show List.range 2 = [0, 1] from rfl, Op.eqItems, Sem.run_bind, Nat.mul_one, hp x0 x1 0 _ rfl, hp y0 y1 0 _ rfl, Result.andThen_ok]
  by_cases h0 : x0 = y0 <;> by_cases h1 : x1 = y1 <;> simp [h0, h1, p1, q]
set_option maxRecDepth 100000 in
set_option maxHeartbeats 8000000 in
theorem same_any (qa : Option Addr) (qn qc qb qo : Nat) (Q : List Kt) (pa : Option Addr) (pn pc pb po : Nat) (A : List Qt) (ra : Option Addr) (rn rc rb ro : Nat) (Q' : List Kt) (sa : Option Addr) (sn sc sb so : Nat) (A' : List Qt) (D D' : List ByteArray) (w : World) (hQ : Ks w qa qn qb qo Q) (hA : Qs w pa pn pb po A) (hD : Dats w Q D) (hQ' : Ks w ra rn rb ro Q') (hA' : Qs w sa sn sb so A') (hD' : Dats w Q' D') (hqn : qn ≤ 9223372036854775807) (hpn : pn ≤ 9223372036854775807) :
    Calls Try.prog 15 #[.agg #[.slice qa qn qc, .slice pa pn pc], .agg #[.slice ra rn rc, .slice sa sn sc]] w fun e w' => e = .returned (.bool (decide (SameN Q D A Q' D' A'))) ∧ Below w.heap.size w w' := by
  have HM := Lib.hid (show _ ∧ _ ∧ _ ∧ _ from ⟨hQ, hA, hQ', hA'⟩)
  have HD := Lib.hid (show _ ∧ _ from ⟨hD, hD'⟩)
  have HL := Lib.hid (show _ ∧ _ ∧ _ ∧ _ from ⟨hQ.1, hA.1, hQ'.1, hA'.1⟩)
  clear hQ hA hQ' hA' hD hD'
  obtain ⟨W, hW⟩ : ∃ W, W = (w.alloc (.cells #[.slice qa qn qc, .slice pa pn pc] 25)).alloc (.cells #[.slice ra rn rc, .slice sa sn sc] 25) := ⟨_, rfl⟩
  have hB : Below w.heap.size w W := by rw [hW]; go_grown
  have g1 : W.heap[w.heap.size]? = some (.cells #[.slice qa qn qc, .slice pa pn pc] 25 (0, 0)) := by rw [hW]; exact blk_alloc (blk_new _ _) _
  have g2 : W.heap[w.heap.size + 1]? = some (.cells #[.slice ra rn rc, .slice sa sn sc] 25 (0, 0)) := by rw [hW]; have := blk_new (w.alloc (.cells #[.slice qa qn qc, .slice pa pn pc] 25)) (.cells #[.slice ra rn rc, .slice sa sn sc] 25); rwa [World.size_alloc] at this
  have d0 := blk_cell g1 0; have d1 := blk_cell g1 1; have e0 := blk_cell g2 0; have e1 := blk_cell g2 1
  simp at d0 d1 e0 e1
  have H := Lib.hid (show _ ∧ _ ∧ _ from ⟨g1, g2, hB⟩)
  clear hB g1 g2
  go_enter Try.func15, Try.ntmps15
  go_upto_region 1 with fail
  rw [← hW]
  clear hW
  by_cases hn : qn = rn
  case neg =>
    have z : ((qn : Int) != (rn : Int)) = true := by simp; omega
    have E := Lib.hid (show decide (SameN Q D A Q' D' A') = false from decide_eq_false fun g => hn (by rw [← HL.out.1, ← HL.out.2.2.1, ← pkL_len HD.out.1.len, ← pkL_len HD.out.2.len, g.1]))
    clear hn
    go_wp2
    exact bodyPost_ret (v := .bool false) (by simp [results, Try.results15, go_sem]) rfl ⟨by rw [E.out], H.out.2.2⟩
  obtain rfl : qn = rn := hn
  by_cases hp : pn = sn
  case neg =>
    have z : ((pn : Int) != (sn : Int)) = true := by simp; omega
    have E := Lib.hid (show decide (SameN Q D A Q' D' A') = false from decide_eq_false fun g => hp (by rw [← HL.out.2.1, ← HL.out.2.2.2, g.2]))
    clear hp
    go_wp2
    exact bodyPost_ret (v := .bool false) (by simp [results, Try.results15, go_sem]) rfl ⟨by rw [E.out], H.out.2.2⟩
  obtain rfl : pn = sn := hp
  go_wp2
  clear d0 d1 e0 e1
  go_loopw [5] (fun i wr => ∃ k : Nat, k ≤ qn ∧ i = .int .i64 k ∧ (∀ j, j < k → pk (nthK Q j) (nthD D j) = pk (nthK Q' j) (nthD D' j)) ∧ wr.heap[w.heap.size]? = some (.cells #[.slice qa qn qc, .slice pa pn pc] 25 (0, 0)) ∧ wr.heap[w.heap.size + 1]? = some (.cells #[.slice ra qn rc, .slice sa pn sc] 25 (0, 0)) ∧ Below w.heap.size w wr) (fun i _ => qn - (intOf i).toNat)
  case atStart => exact ⟨0, Nat.zero_le _, rfl, fun i hi => by omega, H.out⟩
  case round =>
    clear H
    obtain ⟨k, hk, rfl, hok, hb1, hb2, hb⟩ := hrel
    have d0 := blk_cell hb1 0; have d1 := blk_cell hb1 1; have e0 := blk_cell hb2 0; have e1 := blk_cell hb2 1
    simp at d0 d1 e0 e1
    have HK := Lib.hid (show _ ∧ _ ∧ _ ∧ _ from ⟨hok, hb1, hb2, hb⟩)
    have hl1 := (Array.getElem?_eq_some_iff.1 hb1).1
    have hl2 := (Array.getElem?_eq_some_iff.1 hb2).1
    clear hok hb1 hb2 hb
    by_cases hlt : k < qn
    case neg =>
      obtain rfl : k = qn := by omega
      have hkk : decide ((k : Int) < k) = false := by simp
      have HP := Lib.hid (pkL_eq HD.out.1.len HD.out.2.len (by rw [HL.out.1, HL.out.2.2.1]) fun i hi => HK.out.1 i (by rw [← HL.out.1]; exact hi))
      have H2 := Lib.hid HK.out.2
      go_wp2
      clear d0 d1 e0 e1 hkk HK
      go_loopw [6] (fun i wr => ∃ j : Nat, j ≤ pn ∧ i = .int .i64 j ∧ (∀ u, u < j → nthQ A u = nthQ A' u) ∧ wr.heap[w.heap.size]? = some (.cells #[.slice qa k qc, .slice pa pn pc] 25 (0, 0)) ∧ wr.heap[w.heap.size + 1]? = some (.cells #[.slice ra k rc, .slice sa pn sc] 25 (0, 0)) ∧ Below w.heap.size w wr) (fun i _ => pn - (intOf i).toNat)
      case atStart => exact ⟨0, Nat.zero_le _, rfl, fun i hi => by omega, H2.out⟩
      case round =>
        clear H2
        obtain ⟨j, hj, rfl, hok, hb1, hb2, hb⟩ := hrel
        have d0 := blk_cell hb1 0; have d1 := blk_cell hb1 1; have e0 := blk_cell hb2 0; have e1 := blk_cell hb2 1
        simp at d0 d1 e0 e1
        have HJ := Lib.hid (show _ ∧ _ ∧ _ ∧ _ from ⟨hok, hb1, hb2, hb⟩)
        have hl1 := (Array.getElem?_eq_some_iff.1 hb1).1
        have hl2 := (Array.getElem?_eq_some_iff.1 hb2).1
        clear hok hb1 hb2 hb
        by_cases hjp : j < pn
        case neg =>
          obtain rfl : j = pn := by omega
          have hkk : decide ((j : Int) < j) = false := by simp
          have E := Lib.hid (show decide (SameN Q D A Q' D' A') = true from decide_eq_true ⟨HP.out, qs_eq (by rw [HL.out.2.1, HL.out.2.2.2]) fun i hi => HJ.out.1 i (by rw [← HL.out.2.1]; exact hi)⟩)
          go_wp2
          exact bodyPost_ret (v := .bool true) (by simp [results, Try.results15, go_sem]) rfl ⟨by rw [E.out], HJ.out.2.2.2⟩
        obtain ⟨rfl, hbw⟩ := HM.out.2.1.2.1 (by omega)
        obtain ⟨rfl, hbw'⟩ := HM.out.2.2.2.2.1 (by omega)
        obtain ⟨c0, c1⟩ := (HM.out.2.1.grown HJ.out.2.2.2).2.2 j hjp
        obtain ⟨f0, f1⟩ := (HM.out.2.2.2.grown HJ.out.2.2.2).2.2 j hjp
        have hne := fun (h : nthQ A j ≠ nthQ A' j) => show ¬ SameN Q D A Q' D' A' from fun g => h (by rw [g.2])
        have hsu : nthQ A j = nthQ A' j → ∀ u, u < j + 1 → nthQ A u = nthQ A' u := fun h u hu => by
          by_cases e : u = j
          · subst e; exact h
          · exact HJ.out.1 u (by omega)
        obtain ⟨x, hx⟩ : ∃ x, x = nthQ A j := ⟨_, rfl⟩
        obtain ⟨y, hy⟩ : ∃ y, y = nthQ A' j := ⟨_, rfl⟩
        rw [← hx, ← hy] at hsu hne
        rw [← hx] at c0 c1
        rw [← hy] at f0 f1
        clear hx hy
        have hrun := run_eqQ x y
        obtain ⟨x0, x1⟩ := x
        obtain ⟨y0, y1⟩ := y
        dsimp only at c0 c1 f0 f1
        dsimp only [encQ] at hrun
        have HX := Lib.hid (show _ ∧ _ from ⟨hne, hsu⟩)
        clear hne hsu
        have hltI : (j : Int) < pn := by omega
        by_cases q : ((x0, x1) : Qt) = (y0, y1)
        · rw [decide_eq_true q] at hrun
          have HQ := Lib.hid q
          clear q
          go_upto_region 11 with fail
          replace c0 := cell_regrown c0; replace c1 := cell_regrown c1; replace f0 := cell_regrown f0; replace f1 := cell_regrown f1
          replace d0 := cell_regrown d0; replace d1 := cell_regrown d1; replace e0 := cell_regrown e0; replace e1 := cell_regrown e1
          refine wp_region_quiet_below (by kernel_rfl) (by kernel_rfl) ?_
          repeat (go_big_quiet_step ((fail)))
          refine wpQuiet_nil ?_
          intro WQ hq'
          have hq := of_regrown hq'
          clear hq'
          go_wp2
          go_roundw
          case rel => exact ⟨j + 1, by omega, by go_num, HX.out.2 HQ.out, blk_below HJ.out.2.1 hq hl1, blk_below HJ.out.2.2.1 hq hl2, below_after HJ.out.2.2.2 hq HJ.out.2.2.2.size⟩
          case measure => simp [intOf] <;> omega
        · rw [decide_eq_false q] at hrun
          have E := Lib.hid (show decide (SameN Q D A Q' D' A') = false from decide_eq_false (HX.out.1 q))
          clear q
          go_upto_region 11 with fail
          replace c0 := cell_regrown c0; replace c1 := cell_regrown c1; replace f0 := cell_regrown f0; replace f1 := cell_regrown f1
          replace d0 := cell_regrown d0; replace d1 := cell_regrown d1; replace e0 := cell_regrown e0; replace e1 := cell_regrown e1
          refine wp_region_quiet_below (by kernel_rfl) (by kernel_rfl) ?_
          repeat (go_big_quiet_step ((fail)))
          refine wpQuiet_nil ?_
          intro WQ hq'
          have hq := of_regrown hq'
          clear hq'
          go_wp2
          exact bodyPost_ret (v := .bool false) (by simp [results, Try.results15, go_sem]) rfl ⟨by rw [E.out], (below_after HJ.out.2.2.2 hq HJ.out.2.2.2.size)⟩
    obtain ⟨rfl, hbw⟩ := HM.out.1.2.1 (by omega)
    obtain ⟨rfl, hbw'⟩ := HM.out.2.2.1.2.1 (by omega)
    obtain ⟨c0, c1, c2⟩ := (HM.out.1.grown HK.out.2.2.2).2.2 k hlt
    obtain ⟨f0, f1, f2⟩ := (HM.out.2.2.1.grown HK.out.2.2.2).2.2 k hlt
    have hs1 := (HD.out.1.grown HK.out.2.2.2).dat k (by rw [HL.out.1]; exact hlt)
    have hs2 := (HD.out.2.grown HK.out.2.2.2).dat k (by rw [HL.out.2.2.1]; exact hlt)
    have hne := fun h => pkL_ne (i := k) HD.out.1.len HD.out.2.len (by rw [HL.out.1]; exact hlt) (by rw [HL.out.2.2.1]; exact hlt) h
    have hsu : pk (nthK Q k) (nthD D k) = pk (nthK Q' k) (nthD D' k) → ∀ j, j < k + 1 → pk (nthK Q j) (nthD D j) = pk (nthK Q' j) (nthD D' j) := fun h j hj => by
      by_cases e : j = k
      · subst e; exact h
      · exact HK.out.1 j (by omega)
    obtain ⟨x, hx⟩ : ∃ x, x = nthK Q k := ⟨_, rfl⟩
    obtain ⟨y, hy⟩ : ∃ y, y = nthK Q' k := ⟨_, rfl⟩
    obtain ⟨S, hS⟩ : ∃ S, S = nthD D k := ⟨_, rfl⟩
    obtain ⟨S', hS'⟩ : ∃ S, S = nthD D' k := ⟨_, rfl⟩
    rw [← hx, ← hy, ← hS, ← hS'] at hsu hne
    rw [← hx] at c0 c1 c2
    rw [← hy] at f0 f1 f2
    rw [← hx, ← hS] at hs1
    rw [← hy, ← hS'] at hs2
    clear hx hy hS hS'
    obtain ⟨x0, x1, xa, xn, xc⟩ := x
    obtain ⟨y0, y1, ya, yn, yc⟩ := y
    dsimp only at c0 c1 c2 f0 f1 f2
    have HX := Lib.hid (show _ ∧ _ ∧ _ ∧ _ from ⟨hs1, hs2, hne, hsu⟩)
    clear hs1 hs2 hne hsu
    have hltI : (k : Int) < qn := by omega
    go_upto_region 6 with fail
    replace c0 := cell_regrown c0; replace c1 := cell_regrown c1; replace c2 := cell_regrown c2
    replace f0 := cell_regrown f0; replace f1 := cell_regrown f1; replace f2 := cell_regrown f2
    replace d0 := cell_regrown d0; replace d1 := cell_regrown d1; replace e0 := cell_regrown e0; replace e1 := cell_regrown e1
    by_cases q : pk (x0, x1, xa, xn, xc) S = pk (y0, y1, ya, yn, yc) S'
    case neg =>
      have E := Lib.hid (show decide (SameN Q D A Q' D' A') = false from decide_eq_false fun g => HX.out.2.2.1 q g.1)
      refine wp_region_quiet_below (by kernel_rfl) (by kernel_rfl) ?_
      repeat (go_big_quiet_step (((go_at_call 22; with_reducible exact Calls.regrown_of (samePacket_f (x0, x1, xa, xn, xc) (y0, y1, ya, yn, yc) S S' _ (HX.out.1.below (below_regrown wr _ _) (Nat.le_refl _)) (HX.out.2.1.below (below_regrown wr _ _) (Nat.le_refl _)) q)))))
      refine wpQuiet_nil ?_
      intro WQ hq'
      have hq := of_regrown hq'
      clear hq'
      clear q
      go_wp2
      exact bodyPost_ret (v := .bool false) (by simp [results, Try.results15, go_sem]) rfl ⟨by rw [E.out], (below_after HK.out.2.2.2 hq HK.out.2.2.2.size)⟩
    refine wp_region_quiet_below (by kernel_rfl) (by kernel_rfl) ?_
    repeat (go_big_quiet_step (((go_at_call 22; with_reducible exact Calls.regrown_of (samePacket_t (x0, x1, xa, xn, xc) (y0, y1, ya, yn, yc) S S' _ (HX.out.1.below (below_regrown wr _ _) (Nat.le_refl _)) (HX.out.2.1.below (below_regrown wr _ _) (Nat.le_refl _)) q)))))
    refine wpQuiet_nil ?_
    intro WQ hq'
    have hq := of_regrown hq'
    clear hq'
    have HQ := Lib.hid q
    clear q
    go_wp2
    go_roundw
    case rel => exact ⟨k + 1, by omega, by go_num, HX.out.2.2.2 HQ.out, blk_below HK.out.2.1 hq hl1, blk_below HK.out.2.2.1 hq hl2, below_after HK.out.2.2.2 hq HK.out.2.2.2.size⟩
    case measure => simp [intOf] <;> omega
end Go.Proofs.Ythgbkdaimnejeaa
