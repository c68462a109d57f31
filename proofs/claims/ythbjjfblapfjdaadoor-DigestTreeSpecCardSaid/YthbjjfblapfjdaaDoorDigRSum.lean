/- The reference's Sum (layer 2). -/
import Derived.Test.YthbjjfblapfjdaaDoorDigPP
namespace Go.Proofs.YthbjjfblapfjdaaDoor
open Go.ChangeShapes Go.WideShapes Go.ChangeAt Go.RowKit

def hI : St := (1779033703, 3144134277, 1013904242, 2773480762, 1359893119, 2600822924, 528734635, 1541459225)
theorem hI_ok : okSt hI := by unfold okSt isU32 hI; decide
/-- Block k of a message. -/
def blkL (P : List Int) (k : Nat) : List Int := (P.drop (64 * k)).take 64
def sumK (P : List Int) : Nat → St
  | 0 => hI
  | k + 1 => add8 (sumK P k) (stK (blkL P k) (sumK P k) 64)
theorem sumK_ok (P : List Int) : ∀ k, okSt (sumK P k)
  | 0 => hI_ok
  | _ + 1 => add8_ok _ _
/-- The state that a message leads to. -/
def sumS (l : List Int) : St := sumK (padL l) ((padL l).length / 64)
theorem blkL_get (P : List Int) (k i : Nat) (hi : i < 64) : (blkL P k).getD i 0 = P.getD (64 * k + i) 0 := by
  simp [blkL, List.getD_eq_getElem?_getD, hi]
theorem blk_of {w : World} {a : Option Addr} {b off n : Nat} {P : List Int} (h : RowB w a b off n P) {k : Nat} (hk : 64 * k + 64 ≤ n) : Blk w b (off + 64 * k) (blkL P k) :=
  ⟨h.old (by omega), fun i hi => by rw [blkL_get P k i hi, Nat.add_assoc]; exact h.cel _ (by omega)⟩

theorem zero_one8 : (Array.replicate 32 (Value.int .u8 0)).all (·.oneCell') = true := by kernel_rfl
theorem RowB.far {w w' : World} {a : Option Addr} {b off n : Nat} {l : List Int} (h : RowB w a b off n l) (hb : w'.heap[b]? = w.heap[b]?) (hz : w.heap.size ≤ w'.heap.size) : RowB w' a b off n l :=
  ⟨h.len, h.adr, fun hn => Nat.lt_of_lt_of_le (h.old hn) hz, fun i hi => (World.cell?_of_block (w := w) (w' := w') (a := ⟨b, off + i, none⟩) hb).trans (h.cel i hi)⟩
theorem far8 {b q : Nat} {w : World} {u0 u1 u2 u3 u4 u5 u6 u7 : Value} (hq : q ≠ b) :
    ((((((((w.setCell ⟨b, 0, none⟩ u0).setCell ⟨b, 1, none⟩ u1).setCell ⟨b, 2, none⟩ u2).setCell ⟨b, 3, none⟩ u3).setCell ⟨b, 4, none⟩ u4).setCell ⟨b, 5, none⟩ u5).setCell ⟨b, 6, none⟩ u6).setCell ⟨b, 7, none⟩ u7).heap[q]? = w.heap[q]? :=
  (Below.heap_setCell _ _ _ _ hq).trans ((Below.heap_setCell _ _ _ _ hq).trans ((Below.heap_setCell _ _ _ _ hq).trans ((Below.heap_setCell _ _ _ _ hq).trans ((Below.heap_setCell _ _ _ _ hq).trans ((Below.heap_setCell _ _ _ _ hq).trans ((Below.heap_setCell _ _ _ _ hq).trans (Below.heap_setCell _ _ _ _ hq)))))))

set_option maxRecDepth 100000 in
set_option maxHeartbeats 4000000 in
theorem rsum_any (a : Option Addr) (b off n cap : Nat) (l : List Int) (w : World) (hR : RowB w a b off n l) (hnc : a = none → cap = 0) (hn : n ≤ 900000) :
    Calls Tryd.prog 13 #[.slice a n cap] w fun e w' => e = .returned (.agg (dgV (sumS l))) ∧ Below w.heap.size w w' := by
  have hl := hR.len
  have HR := Lib.hid hR
  clear hR
  go_enter Tryd.func13, Tryd.ntmps13
  go_wp2_with fail
  have hs0 := blkN (W := w.alloc (.cells (List.toArray (.int .u8 0 :: .int .u8 0 :: .int .u8 0 :: .int .u8 0 :: .int .u8 0 :: .int .u8 0 :: .int .u8 0 :: .int .u8 0 :: .int .u8 0 :: .int .u8 0 :: .int .u8 0 :: .int .u8 0 :: .int .u8 0 :: .int .u8 0 :: .int .u8 0 :: .int .u8 0 :: .int .u8 0 :: .int .u8 0 :: .int .u8 0 :: .int .u8 0 :: .int .u8 0 :: .int .u8 0 :: .int .u8 0 :: .int .u8 0 :: .int .u8 0 :: .int .u8 0 :: .int .u8 0 :: .int .u8 0 :: .int .u8 0 :: .int .u8 0 :: .int .u8 0 :: .int .u8 0 :: [])) 26)) (o := .cells (stV hI) 51) (k := w.heap.size + 1) (by simp)
  have hd0 := blk_alloc (blk_new w (.cells (List.toArray (.int .u8 0 :: .int .u8 0 :: .int .u8 0 :: .int .u8 0 :: .int .u8 0 :: .int .u8 0 :: .int .u8 0 :: .int .u8 0 :: .int .u8 0 :: .int .u8 0 :: .int .u8 0 :: .int .u8 0 :: .int .u8 0 :: .int .u8 0 :: .int .u8 0 :: .int .u8 0 :: .int .u8 0 :: .int .u8 0 :: .int .u8 0 :: .int .u8 0 :: .int .u8 0 :: .int .u8 0 :: .int .u8 0 :: .int .u8 0 :: .int .u8 0 :: .int .u8 0 :: .int .u8 0 :: .int .u8 0 :: .int .u8 0 :: .int .u8 0 :: .int .u8 0 :: .int .u8 0 :: [])) 26)) (.cells (stV hI) 51)
  have hB0 : Below w.heap.size w ((w.alloc (.cells (List.toArray (.int .u8 0 :: .int .u8 0 :: .int .u8 0 :: .int .u8 0 :: .int .u8 0 :: .int .u8 0 :: .int .u8 0 :: .int .u8 0 :: .int .u8 0 :: .int .u8 0 :: .int .u8 0 :: .int .u8 0 :: .int .u8 0 :: .int .u8 0 :: .int .u8 0 :: .int .u8 0 :: .int .u8 0 :: .int .u8 0 :: .int .u8 0 :: .int .u8 0 :: .int .u8 0 :: .int .u8 0 :: .int .u8 0 :: .int .u8 0 :: .int .u8 0 :: .int .u8 0 :: .int .u8 0 :: .int .u8 0 :: .int .u8 0 :: .int .u8 0 :: .int .u8 0 :: .int .u8 0 :: [])) 26)).alloc (.cells (stV hI) 51)) := ((Below.refl _ _).alloc (Nat.le_refl _) _).alloc (by simp) _
  refine (rpadded_any a b off n cap l _ (HR.out.below hB0 (Nat.le_refl _)) hnc hn).mono ?_
  rintro e W1 ⟨v, rfl, hO, hb1⟩
  have hs1 := blk_below hs0 hb1 (by simp)
  have hd1 := blk_below hd0 hb1 (by simp; omega)
  have hB1 := below_after hB0 hb1 (by simp; omega)
  obtain ⟨ap, bp, cp, rfl, hP, hcp, hcm⟩ := hO.row
  obtain ⟨K, hK⟩ : ∃ K, (padL l).length = 64 * K := ⟨(padL l).length / 64, by have := padL_mod l; omega⟩
  have hKs : sumS l = sumK (padL l) K := by unfold sumS; rw [hK]; congr 1; omega
  have hK9 : 64 * K ≤ 1000000 := by rw [← hK, padL_len, hl]; unfold zN; omega
  have hbp : w.heap.size + 2 ≤ bp := by
    obtain ⟨g, c, eg, hgB⟩ := hO.inBlock hK (by have := padL_len l; omega)
    have ea := hP.adr (by have := padL_len l; omega)
    rw [ea] at eg
    injection eg with e1
    injection e1 with e1
    injection e1 with e1
    simp at hgB
    omega
  rw [hK] at hP hcp ⊢
  have hz1 := hb1.size
  simp at hz1
  have HP := Lib.hid (show _ ∧ _ ∧ _ ∧ _ ∧ _ from ⟨hP, hs1, hd1, hB1, hKs⟩)
  clear hs0 hd0 hB0 hO hb1 hs1 hd1 hB1 hP hKs hK
  generalize padL l = P at *
  go_wp2_with fail
  go_loopw [5] (fun i wr => ∃ k : Nat, k ≤ K ∧ i = .int .i64 (64 * k : Nat) ∧ wr.heap[w.heap.size + 1]? = some (.cells (stV (sumK P k)) 51 (0, 0)) ∧ wr.heap[w.heap.size]? = some (.cells (List.toArray (.int .u8 0 :: .int .u8 0 :: .int .u8 0 :: .int .u8 0 :: .int .u8 0 :: .int .u8 0 :: .int .u8 0 :: .int .u8 0 :: .int .u8 0 :: .int .u8 0 :: .int .u8 0 :: .int .u8 0 :: .int .u8 0 :: .int .u8 0 :: .int .u8 0 :: .int .u8 0 :: .int .u8 0 :: .int .u8 0 :: .int .u8 0 :: .int .u8 0 :: .int .u8 0 :: .int .u8 0 :: .int .u8 0 :: .int .u8 0 :: .int .u8 0 :: .int .u8 0 :: .int .u8 0 :: .int .u8 0 :: .int .u8 0 :: .int .u8 0 :: .int .u8 0 :: .int .u8 0 :: [])) 26 (0, 0)) ∧ RowB wr ap bp 0 (64 * K) P ∧ Below w.heap.size w wr) (fun i _ => 64 * K - (intOf i).toNat)
  case atStart => exact ⟨0, by omega, rfl, HP.out.2.1, HP.out.2.2.1, HP.out.1, HP.out.2.2.2.1⟩
  case round =>
    obtain ⟨k, hk, rfl, hS, hD, hR, hB⟩ := hrel
    obtain ⟨N, hN⟩ : ∃ N, N = 64 * k := ⟨_, rfl⟩
    rw [← hN]
    by_cases hlt : k < K
    case neg =>
      obtain rfl : k = K := by omega
      have HZ := Lib.hid (show _ ∧ _ ∧ _ ∧ _ from ⟨hS, hD, hB, HP.out.2.2.2.2⟩)
      have hsz := (Array.getElem?_eq_some_iff.1 hS).1
      have nN : ¬ (N : Int) < ((64 * k : Nat) : Int) := by omega
      clear hS hD hB hR hN
      generalize wr = W0 at *
      go_wp2_with (with_reducible refine held (o := ⟨none, _, _, _, _, _⟩) ?_)
      unfold Held
      rw [show (List.toArray (.int .u8 0 :: .int .u8 0 :: .int .u8 0 :: .int .u8 0 :: .int .u8 0 :: .int .u8 0 :: .int .u8 0 :: .int .u8 0 :: .int .u8 0 :: .int .u8 0 :: .int .u8 0 :: .int .u8 0 :: .int .u8 0 :: .int .u8 0 :: .int .u8 0 :: .int .u8 0 :: .int .u8 0 :: .int .u8 0 :: .int .u8 0 :: .int .u8 0 :: .int .u8 0 :: .int .u8 0 :: .int .u8 0 :: .int .u8 0 :: .int .u8 0 :: .int .u8 0 :: .int .u8 0 :: .int .u8 0 :: .int .u8 0 :: .int .u8 0 :: .int .u8 0 :: .int .u8 0 :: []) : Array Value) = Array.replicate 32 (.int .u8 0) from rfl]
      have hz := blk_new W0 (.cells (Array.replicate 32 (.int .u8 0)) 26)
      refine wpList_store_row rfl _ (.tmp 6) (.tmp 24) rfl W0.heap.size (Array.replicate 32 (.int .u8 0)) rfl rfl 26 _ hz (by rw [Array.size_replicate]; kernel_rfl) rfl zero_one8 ?_
      rw [setRow_same hz]
      have hS0 := blk_alloc HZ.out.1 (.cells (Array.replicate 32 (.int .u8 0)) 26)
      have hD0 := blk_alloc HZ.out.2.1 (.cells (Array.replicate 32 (.int .u8 0)) 26)
      have hB0 := HZ.out.2.2.1.alloc HZ.out.2.2.1.size (.cells (Array.replicate 32 (.int .u8 0)) 26)
      have hEE := HZ.out.2.2.2
      obtain ⟨db, hdb⟩ : ∃ db, db = W0.heap.size := ⟨_, rfl⟩
      rw [← hdb] at hz ⊢
      have hdz : w.heap.size + 1 < db := by omega
      generalize W0.alloc (.cells (Array.replicate 32 (.int .u8 0)) 26) = W2 at *
      rw [← hEE] at hS0
      obtain ⟨s, hss⟩ : ∃ s, s = sumS l := ⟨_, rfl⟩
      rw [← hss] at hS0
      have HSS := Lib.hid hss
      clear hss
      have HY := Lib.hid (show _ ∧ _ ∧ _ ∧ _ from ⟨hS0, hD0, hB0, hz⟩)
      clear hz hS0 hD0 hB0 hEE hdb HZ hsz
      go_wp2_with fail
      go_loopw [7] (fun i wr => ∃ (j : Nat) (X : Array Value), j ≤ 32 ∧ i = .int .i64 j ∧ wr.heap[db]? = some (.cells X 26 (0, 0)) ∧ Dg X s j ∧ Below db W2 wr) (fun i _ => 32 - (intOf i).toNat)
      case atStart => exact ⟨0, _, by omega, rfl, HY.out.2.2.2, ⟨by simp, fun i hi => by rw [if_neg (by omega)]; simp [hi]⟩, Below.refl _ _⟩
      case round =>
        obtain ⟨j, X, hj, rfl, hX, hDg, hB⟩ := hrel
        have hgr := (Array.getElem?_eq_some_iff.1 hX).1
        by_cases hl2 : j < 32
        case neg =>
          obtain rfl : j = 32 := by omega
          have eX := hDg.all
          have hs := hDg.1
          have h1 : X.all (·.oneCell') = true := by rw [eX]; exact dgV_one s
          have hD2 := blk_below HY.out.2.1 hB (by omega)
          have HE := Lib.hid (show _ ∧ Below w.heap.size w wr from ⟨eX, HY.out.2.2.1.trans (hB.mono (by omega))⟩)
          clear eX hDg hB
          go_upto_region 12 with fail
          refine wp_region_lit ?_
          refine wpList_load_row rfl _ (.tmp 6) rfl db rfl 26 X (0, 0) _ hX Tryd.underlying26 rfl (by rw [hs]; kernel_rfl) ?_
          refine wpList_store_row rfl _ (.tmp 2) (.tmp 41) rfl w.heap.size X rfl rfl 26 _ hD2 (by rw [hs]; kernel_rfl) (by rw [hs]; rfl) h1 ?_
          have hD3 := setRow_heap wr w.heap.size _ X 26 (0, 0) hD2
          have hB3 := below_setRow HE.out.2 (Nat.le_refl _) X
          generalize wr.setRow w.heap.size X = W5 at *
          go_wp2
          refine bodyPost_ret (v := .agg X) ?_ rfl ⟨by rw [HE.out.1, HSS.out], hB3⟩
          exact results_cell_row Tryd.results13 _ _ w.heap.size 26 X (0, 0) _ rfl hD3 Tryd.underlying26 rfl (by rw [hs]; kernel_rfl)
        have i1 : (j : Int) < 32 := by omega
        have uk : IntKind.i64.wrap ((j : Int) + 1) = (j : Int) + 1 := wrap_id (by omega)
        obtain ⟨a', ha⟩ : ∃ a : Nat, a = j / 4 := ⟨_, rfl⟩
        obtain ⟨c, hc⟩ : ∃ c : Nat, c = j % 4 := ⟨_, rfl⟩
        obtain ⟨e, he⟩ : ∃ e : Nat, e = 24 - c * 8 := ⟨_, rfl⟩
        have qa : (j : Int).tdiv 4 = (a' : Int) := by rw [ha]; rfl
        have qa2 : (j : Int) / 4 = (a' : Int) := by omega
        have qc : (j : Int).tmod 4 = (c : Int) := by rw [hc]; rfl
        have qc2 : (j : Int) % 4 = (c : Int) := by omega
        have u1 : IntKind.i64.wrap (8 * (c : Int)) = 8 * (c : Int) := wrap_id (by omega)
        have u2 : IntKind.i64.wrap (24 - 8 * (c : Int)) = (e : Int) := (wrap_id (by omega)).trans (by omega)
        have ua : (a' : Int) < 8 := by omega
        have ue : ¬ (e : Int) < 0 := by omega
        have hlt := (Array.getElem?_eq_some_iff.1 HY.out.1).1
        have ch := (blk_cell (blk_below HY.out.1 hB (by omega)) a').trans (enc8_get s a' (by omega))
        have hhr : w.heap.size + 1 < wr.heap.size := by omega
        have cg := (blk_cell hX j).trans (hDg.2 j hl2)
        have fg := blk_free hX j
        have hd : dByte s j = (enc8 s).getD a' 0 / 2 ^ e % 256 := by unfold dByte; rw [← ha, ← hc, ← he]
        have hD2 := hDg.set
        rw [hd] at hD2
        have HX := Lib.hid (show _ ∧ _ ∧ _ from ⟨hX, hD2, hB⟩)
        have HEE := Lib.hid (show e ≤ 24 by omega)
        clear hX hDg hB hd hD2 ha hc he
        generalize (enc8 s).getD a' 0 = x at *
        generalize (if j < j then dByte s j else 0) = zz at *
        go_wp2
        go_roundw
        case rel => exact ⟨j + 1, _, by omega, by go_num, cells_setU HX.out.1, by rw [show min e 32 = e by have := HEE.out; omega]; exact HX.out.2.1, HX.out.2.2.setCell (p := ⟨db, j, none⟩) (Nat.le_refl _) _⟩
        case measure => simp [intOf]; omega
    have i1 : (N : Int) < ((64 * K : Nat) : Int) := by omega
    have u1 : IntKind.i64.wrap ((N : Int) + 64) = ((N + 64 : Nat) : Int) := (wrap_id (by omega)).trans (by omega)
    obtain rfl := hR.adr (by omega)
    have hsb := (Array.getElem?_eq_some_iff.1 hS).1
    have i3 : ((N + 64 : Nat) : Int) ≤ (cp : Int) := by omega
    have i4 : ¬ cp = N := by omega
    have i5 : N + 64 - N = 64 := by omega
    have i6 : ((N : Nat) : Int) ≤ ((N + 64 : Nat) : Int) := by omega
    have hbl := blk_of hR (k := k) (by omega)
    rw [← hN, Nat.zero_add] at hbl
    obtain ⟨s, hs⟩ : ∃ s, s = sumK P k := ⟨_, rfl⟩
    have hok := sumK_ok P k
    rw [← hs] at hok hS
    have HZ := Lib.hid (show _ ∧ _ ∧ _ ∧ _ ∧ _ ∧ _ ∧ _ from ⟨hS, hD, hR, hB, hbl, hok, hs⟩)
    have HN := Lib.hid hN
    clear hS hD hR hB hbl hok hs hN
    obtain ⟨s0, s1, s2, s3, s4, s5, s6, s7⟩ := s
    have c0 := blk_cell HZ.out.1 0; have c1 := blk_cell HZ.out.1 1; have c2 := blk_cell HZ.out.1 2; have c3 := blk_cell HZ.out.1 3; have c4 := blk_cell HZ.out.1 4; have c5 := blk_cell HZ.out.1 5; have c6 := blk_cell HZ.out.1 6; have c7 := blk_cell HZ.out.1 7
    simp [stV] at c0 c1 c2 c3 c4 c5 c6 c7
    go_wp2_with fail
    refine wp_region_from 1 5 (fun w' => True) (by kernel_rfl) (by kernel_rfl) (by decide) (by kernel_rfl) trivial ?_
    simp only [List.drop_succ_cons, List.drop_zero, List.take_succ_cons, List.take_zero]
    refine wpHeld_cons (.slice (some ⟨bp, 0, none⟩) (64 * K) cp) (by kernel_rfl) ?_ ?_
    · rintro w' -
      try go_simp
    refine wpHeld_cons (.int .i64 (N : Int)) (by kernel_rfl) ?_ ?_
    · rintro w' -
      try go_simp
    refine wpHeld_cons (.int .i64 (N : Int)) (by kernel_rfl) ?_ ?_
    · rintro w' -
      try go_simp
    refine wpHeld_cons (.int .i64 ((N + 64 : Nat) : Int)) (by kernel_rfl) ?_ ?_
    · rintro w' -
      try go_simp
    refine wpHeld_cons (.slice (some ⟨bp, N, none⟩) 64 (cp - N)) (by kernel_rfl) ?_ ?_
    · rintro w' -
      try go_simp
      rw [if_pos ⟨by omega, by omega⟩, if_pos (by omega), show ((N : Int) + 64).toNat - N = 64 by omega]
    refine wpHeld_nil ?_
    go_simp
    refine wpAnyH_one (i := 0) (by kernel_rfl) rfl (by kernel_rfl) (fun K' hK' => ?_)
    go_simp
    refine hK' _ _ trivial ?_
    clear hK' K'
    refine wpAnyH_one (i := 6) (by kernel_rfl) rfl (by kernel_rfl) (fun K' hK' => ?_)
    go_simp
    have hbd : Blk wr.drew bp N (blkL P k) := HZ.out.2.2.2.2.1
    refine (rblock_raw s0 s1 s2 s3 s4 s5 s6 s7 bp N (cp - N) (blkL P k) _ hbd HZ.out.2.2.2.2.2.1 (by omega) (by unfold maxLen at hcm; omega)).mono ?_
    rintro e W2 ⟨rfl, hb2⟩
    refine hK' _ _ trivial ?_
    clear hK' K'
    have hb3 : Below wr.heap.size wr W2 := (Below.refl _ _).drew.trans hb2
    have hS2 := blk_below HZ.out.1 hb3 hsb
    have hD2 := blk_below HZ.out.2.1 hb3 (by omega)
    have hR2 := HZ.out.2.2.1.below hb3 (Nat.le_refl _)
    have hB2 := below_after HZ.out.2.2.2.1 hb3 HZ.out.2.2.2.1.size
    obtain ⟨t, ht⟩ : ∃ t, t = add8 (s0, s1, s2, s3, s4, s5, s6, s7) (stK (blkL P k) (s0, s1, s2, s3, s4, s5, s6, s7) 64) := ⟨_, rfl⟩
    rw [← ht]
    have htk : sumK P (k + 1) = t := by rw [ht]; show add8 (sumK P k) _ = _; rw [← HZ.out.2.2.2.2.2.2]
    have HY := Lib.hid (show _ ∧ _ ∧ _ ∧ _ ∧ _ from ⟨hS2, hD2, hR2, hB2, htk⟩)
    clear hS2 hD2 hR2 hB2 htk ht hb2 hb3 hbd c0 c1 c2 c3 c4 c5 c6 c7
    obtain ⟨t0, t1, t2, t3, t4, t5, t6, t7⟩ := t
    have hsb2 := (Array.getElem?_eq_some_iff.1 HY.out.1).1
    have c0 := blk_cell HY.out.1 0; have c1 := blk_cell HY.out.1 1; have c2 := blk_cell HY.out.1 2; have c3 := blk_cell HY.out.1 3; have c4 := blk_cell HY.out.1 4; have c5 := blk_cell HY.out.1 5; have c6 := blk_cell HY.out.1 6; have c7 := blk_cell HY.out.1 7
    simp [stV] at c0 c1 c2 c3 c4 c5 c6 c7
    have fv := fun j => blk_free HY.out.1 j
    unfold stV
    dsimp only
    refine wpAnyH_one (i := 7) (by kernel_rfl) rfl (by kernel_rfl) (fun K' hK' => ?_)
    go_simp
    refine hK' _ _ trivial ?_
    clear hK' K'
    refine wpAnyH_done (by kernel_rfl) ?_ _
    refine NoPanic.normal ?_
    have hS3 : ((((((((W2.setCell ⟨w.heap.size + 1, 0, none⟩ (.int .u32 t0)).setCell ⟨w.heap.size + 1, 1, none⟩ (.int .u32 t1)).setCell ⟨w.heap.size + 1, 2, none⟩ (.int .u32 t2)).setCell ⟨w.heap.size + 1, 3, none⟩ (.int .u32 t3)).setCell ⟨w.heap.size + 1, 4, none⟩ (.int .u32 t4)).setCell ⟨w.heap.size + 1, 5, none⟩ (.int .u32 t5)).setCell ⟨w.heap.size + 1, 6, none⟩ (.int .u32 t6)).setCell ⟨w.heap.size + 1, 7, none⟩ (.int .u32 t7)).heap[w.heap.size + 1]? = some (.cells (stV (t0, t1, t2, t3, t4, t5, t6, t7)) 51 (0, 0)) := box8_set HY.out.1
    have hD3 := (far8 (w := W2) (b := w.heap.size + 1) (q := w.heap.size) (u0 := .int .u32 t0) (u1 := .int .u32 t1) (u2 := .int .u32 t2) (u3 := .int .u32 t3) (u4 := .int .u32 t4) (u5 := .int .u32 t5) (u6 := .int .u32 t6) (u7 := .int .u32 t7) (by omega)).trans HY.out.2.1
    have hR3 := HY.out.2.2.1.far (far8 (w := W2) (b := w.heap.size + 1) (q := bp) (u0 := .int .u32 t0) (u1 := .int .u32 t1) (u2 := .int .u32 t2) (u3 := .int .u32 t3) (u4 := .int .u32 t4) (u5 := .int .u32 t5) (u6 := .int .u32 t6) (u7 := .int .u32 t7) (by omega)) (by simp)
    have hB3 := below8 (b := w.heap.size + 1) (u0 := .int .u32 t0) (u1 := .int .u32 t1) (u2 := .int .u32 t2) (u3 := .int .u32 t3) (u4 := .int .u32 t4) (u5 := .int .u32 t5) (u6 := .int .u32 t6) (u7 := .int .u32 t7) (by omega) HY.out.2.2.2.1
    rw [← HY.out.2.2.2.2] at hS3
    have HX := Lib.hid (show _ ∧ _ ∧ _ ∧ _ from ⟨hS3, hD3, hR3, hB3⟩)
    clear hS3 hD3 hR3 hB3 c0 c1 c2 c3 c4 c5 c6 c7 fv
    go_wp2
    go_roundw
    case rel => exact ⟨k + 1, by omega, by rw [show 64 * (k + 1) = N + 64 by have := HN.out; omega]; go_num, HX.out.1, HX.out.2.1, HX.out.2.2.1, HX.out.2.2.2⟩
    case measure => simp [intOf]; have := HN.out; omega
end Go.Proofs.YthbjjfblapfjdaaDoor
