/- The reference's block (layer 2). -/
import Derived.Test.YthbjjfblapfjdaaDoorDigNum
import Derived.Test.YthbjjfblapfjdaaDoorHeld
namespace Go.Proofs.YthbjjfblapfjdaaDoor
open Go.ChangeShapes Go.WideShapes Go.ChangeAt Go.RowKit

theorem drewN_add (w : World) (m n : Nat) : (w.drewN m).drewN n = w.drewN (m + n) := by
  simp [World.drewN, Nat.add_assoc]
theorem blkN {W : World} {o : Obj} {k : Nat} (h : k = W.heap.size) : (W.alloc o).heap[k]? = some o := by subst h; exact blk_new _ _
def okSt (s : St) : Prop := isU32 s.1 ∧ isU32 s.2.1 ∧ isU32 s.2.2.1 ∧ isU32 s.2.2.2.1 ∧ isU32 s.2.2.2.2.1 ∧ isU32 s.2.2.2.2.2.1 ∧ isU32 s.2.2.2.2.2.2.1 ∧ isU32 s.2.2.2.2.2.2.2
theorem stp_ok (k w : Int) {s : St} (h : okSt s) : okSt (stp k w s) := by
  obtain ⟨a, b, c, d, e, f, g, i⟩ := s
  obtain ⟨h0, h1, h2, h3, h4, h5, h6, h7⟩ := h
  exact ⟨mod_u32 _, h0, h1, h2, mod_u32 _, h4, h5, h6⟩
theorem stK_ok (l : List Int) {s : St} (h : okSt s) : ∀ k, okSt (stK l s k) := by
  intro k
  induction k with
  | zero => exact h
  | succ k ih => exact stp_ok _ _ ih
theorem add8_ok (s v : St) : okSt (add8 s v) := ⟨mod_u32 _, mod_u32 _, mod_u32 _, mod_u32 _, mod_u32 _, mod_u32 _, mod_u32 _, mod_u32 _⟩
theorem pI_eq (e f g h k w : Int) : pI e f g h k w = (h + bits .xor .u32 (bits .xor .u32 (ror e 6) (ror e 11)) (ror e 25) + bits .xor .u32 (bits .and .u32 e f) (bits .and .u32 (bits .xor .u32 IntKind.u32.max e) g) + k + w) % 4294967296 := by
  unfold pI
  rw [IntKind.wrap_u32', IntKind.wrap_u32', IntKind.wrap_u32', IntKind.wrap_u32']
  omega
theorem zero_one : (Array.replicate 64 (Value.int .u32 0)).all (·.oneCell') = true := by kernel_rfl
theorem zero_arr (l : List Int) {X : Array Value} (h : X = Array.replicate 64 (.int .u32 0)) : Arr X l 0 := by
  subst h
  exact ⟨by simp, fun i hi => by rw [if_neg (by omega)]; simp [hi]⟩

set_option maxRecDepth 100000 in
set_option maxHeartbeats 8000000 in
theorem rblock_raw (s0 s1 s2 s3 s4 s5 s6 s7 : Int) (b off cap : Nat) (l : List Int) (w : World) (hb : Blk w b off l) (hok : okSt (s0, s1, s2, s3, s4, s5, s6, s7)) (hcap : 64 ≤ cap) (hcm : cap ≤ 9223372036854775807) :
    Calls Tryd.prog 31 #[.agg #[.int .u32 s0, .int .u32 s1, .int .u32 s2, .int .u32 s3, .int .u32 s4, .int .u32 s5, .int .u32 s6, .int .u32 s7], .slice (some ⟨b, off, none⟩) 64 cap] w fun e w' => e = .returned (.agg (stV (add8 (s0, s1, s2, s3, s4, s5, s6, s7) (stK l (s0, s1, s2, s3, s4, s5, s6, s7) 64)))) ∧ Below w.heap.size w w' := by
  have HB := Lib.hid hb
  have HOK := Lib.hid hok
  clear hb hok
  go_enter Tryd.func31, Tryd.ntmps31
  go_wp2_with (with_reducible refine held (o := ⟨none, _, _, _, _, _⟩) ?_)
  unfold Held
  have hz := blkN (W := (w.alloc (.cells #[.int .u32 s0, .int .u32 s1, .int .u32 s2, .int .u32 s3, .int .u32 s4, .int .u32 s5, .int .u32 s6, .int .u32 s7] 51)).alloc (.cells #[.int .u32 0, .int .u32 0, .int .u32 0, .int .u32 0, .int .u32 0, .int .u32 0, .int .u32 0, .int .u32 0] 51)) (o := .cells (Array.replicate 64 (.int .u32 0)) 63) (k := w.heap.size + 1 + 1) (by simp)
  rw [show (List.toArray (.int .u32 0 :: .int .u32 0 :: .int .u32 0 :: .int .u32 0 :: .int .u32 0 :: .int .u32 0 :: .int .u32 0 :: .int .u32 0 :: .int .u32 0 :: .int .u32 0 :: .int .u32 0 :: .int .u32 0 :: .int .u32 0 :: .int .u32 0 :: .int .u32 0 :: .int .u32 0 :: .int .u32 0 :: .int .u32 0 :: .int .u32 0 :: .int .u32 0 :: .int .u32 0 :: .int .u32 0 :: .int .u32 0 :: .int .u32 0 :: .int .u32 0 :: .int .u32 0 :: .int .u32 0 :: .int .u32 0 :: .int .u32 0 :: .int .u32 0 :: .int .u32 0 :: .int .u32 0 :: .int .u32 0 :: .int .u32 0 :: .int .u32 0 :: .int .u32 0 :: .int .u32 0 :: .int .u32 0 :: .int .u32 0 :: .int .u32 0 :: .int .u32 0 :: .int .u32 0 :: .int .u32 0 :: .int .u32 0 :: .int .u32 0 :: .int .u32 0 :: .int .u32 0 :: .int .u32 0 :: .int .u32 0 :: .int .u32 0 :: .int .u32 0 :: .int .u32 0 :: .int .u32 0 :: .int .u32 0 :: .int .u32 0 :: .int .u32 0 :: .int .u32 0 :: .int .u32 0 :: .int .u32 0 :: .int .u32 0 :: .int .u32 0 :: .int .u32 0 :: .int .u32 0 :: .int .u32 0 :: []) : Array Value) = Array.replicate 64 (.int .u32 0) from rfl]
  refine wpList_store_row rfl _ (.tmp 5) (.tmp 22) rfl (w.heap.size + 1 + 1) (Array.replicate 64 (.int .u32 0)) rfl rfl 63 _ hz (by rw [Array.size_replicate]; kernel_rfl) rfl zero_one ?_
  rw [setRow_same hz]
  have hs := blk_alloc (blk_alloc (blk_new w (.cells #[.int .u32 s0, .int .u32 s1, .int .u32 s2, .int .u32 s3, .int .u32 s4, .int .u32 s5, .int .u32 s6, .int .u32 s7] 51)) (.cells #[.int .u32 0, .int .u32 0, .int .u32 0, .int .u32 0, .int .u32 0, .int .u32 0, .int .u32 0, .int .u32 0] 51)) (.cells (Array.replicate 64 (.int .u32 0)) 63)
  have hr := blk_alloc (blkN (W := w.alloc (.cells #[.int .u32 s0, .int .u32 s1, .int .u32 s2, .int .u32 s3, .int .u32 s4, .int .u32 s5, .int .u32 s6, .int .u32 s7] 51)) (o := .cells #[.int .u32 0, .int .u32 0, .int .u32 0, .int .u32 0, .int .u32 0, .int .u32 0, .int .u32 0, .int .u32 0] 51) (k := w.heap.size + 1) (by simp)) (.cells (Array.replicate 64 (.int .u32 0)) 63)
  have hB : Below w.heap.size w (((w.alloc (.cells #[.int .u32 s0, .int .u32 s1, .int .u32 s2, .int .u32 s3, .int .u32 s4, .int .u32 s5, .int .u32 s6, .int .u32 s7] 51)).alloc (.cells #[.int .u32 0, .int .u32 0, .int .u32 0, .int .u32 0, .int .u32 0, .int .u32 0, .int .u32 0, .int .u32 0] 51)).alloc (.cells (Array.replicate 64 (.int .u32 0)) 63)) := (((Below.refl _ _).alloc (Nat.le_refl _) _).alloc (by simp) _).alloc (by simp; omega) _
  generalize hW : ((w.alloc (.cells #[.int .u32 s0, .int .u32 s1, .int .u32 s2, .int .u32 s3, .int .u32 s4, .int .u32 s5, .int .u32 s6, .int .u32 s7] 51)).alloc (.cells #[.int .u32 0, .int .u32 0, .int .u32 0, .int .u32 0, .int .u32 0, .int .u32 0, .int .u32 0, .int .u32 0] 51)).alloc (.cells (Array.replicate 64 (.int .u32 0)) 63) = W at *
  have HW := Lib.hid (show _ ∧ _ ∧ _ ∧ _ from ⟨hz, hs, hr, hB⟩)
  clear hz hs hr hB hW
  go_wp2_with fail
  go_loopw [6] (fun i wr => ∃ (k : Nat) (X : Array Value), k ≤ 16 ∧ i = .int .i64 k ∧ wr.heap[w.heap.size + 1 + 1]? = some (.cells X 63 (0, 0)) ∧ Arr X l k ∧ Below (w.heap.size + 1 + 1) W wr) (fun i _ => 16 - (intOf i).toNat)
  case atStart => exact ⟨0, _, by omega, rfl, HW.out.1, zero_arr l rfl, Below.refl _ _⟩
  case round =>
    obtain ⟨k, X, hk, rfl, hX, hA, hB⟩ := hrel
    have hBw : Below w.heap.size w wr := HW.out.2.2.2.trans (hB.mono (by omega))
    have hgr := (Array.getElem?_eq_some_iff.1 hX).1
    by_cases hlt : k < 16
    case neg =>
      have ek : k = 16 := by omega
      have nk : ¬ (k : Int) < 16 := by omega
      have HX := Lib.hid (show _ ∧ Arr X l 16 ∧ _ ∧ _ from ⟨hX, ek ▸ hA, hB, hBw⟩)
      clear hX hA hB ek hk hlt hBw
      generalize wr = W0 at *
      go_wp2
      go_loopw [7] (fun i wr => ∃ (k : Nat) (X : Array Value), k ≤ 48 ∧ i = .int .i64 (k + 16 : Nat) ∧ wr.heap[w.heap.size + 1 + 1]? = some (.cells X 63 (0, 0)) ∧ Arr X l (16 + k) ∧ Below (w.heap.size + 1 + 1) W wr) (fun i _ => 64 - (intOf i).toNat)
      case atStart => exact ⟨0, X, by omega, rfl, HX.out.1, HX.out.2.1, HX.out.2.2.1⟩
      case round =>
        obtain ⟨k, X, hk, rfl, hX, hA, hB⟩ := hrel
        have hBw : Below w.heap.size w wr := HW.out.2.2.2.trans (hB.mono (by omega))
        have hgr := (Array.getElem?_eq_some_iff.1 hX).1
        obtain ⟨T, hT⟩ : ∃ T : Nat, T = k + 16 := ⟨_, rfl⟩
        rw [← hT]
        by_cases hlt : k < 48
        case neg =>
          have ek : k = 48 := by omega
          have nk : ¬ (T : Int) < 64 := by omega
          have HX := Lib.hid (show _ ∧ Arr X l 64 ∧ _ ∧ _ from ⟨hX, by have := hA; rw [ek] at this; exact this, hB, hBw⟩)
          clear hX hA hB ek hk hlt hBw hT
          generalize wr = W0 at *
          go_wp2_with (first | (go_at_call 47; refine (numbers_any _).mono ?_; rintro e W1 ⟨rfl, hb1⟩) | (with_reducible refine held (o := ⟨none, _, _, _, _, _⟩) ?_))
          unfold Held
          refine wpList_store_row rfl _ (.tmp 10) (.tmp 78) rfl W1.heap.size keyV rfl rfl 63 _ (blk_new _ _) (by rw [keyV_size]; kernel_rfl) (by rw [keyV_size]; rfl) keyV_one ?_
          rw [World.setRow_alloc_new]
          have gW0 := HX.out.2.2.1.size
          have hwz := (Array.getElem?_eq_some_iff.1 HX.out.1).1
          have hbW := (show Below (w.heap.size + 1 + 1) W W1 from HX.out.2.2.1.trans (hb1.mono (by omega)))
          have hk0 := blk_new W1 (.cells keyV 63)
          have hw0 := blk_alloc (blk_below HX.out.1 hb1 hwz) (.cells keyV 63)
          have hs0 := blk_alloc (blk_below HW.out.2.1 hbW (by omega)) (.cells keyV 63)
          have hr0 := blk_alloc (blk_below HW.out.2.2.1 hbW (by omega)) (.cells keyV 63)
          have hB2 := (below_after HX.out.2.2.2 hb1 HX.out.2.2.2.size).alloc (Nat.le_trans HX.out.2.2.2.size hb1.size) (.cells keyV 63)
          rw [HX.out.2.1.all] at hw0
          have hwk : w.heap.size + 1 + 1 < W1.heap.size := Nat.lt_of_lt_of_le hwz hb1.size
          obtain ⟨kb, hkb⟩ : ∃ kb, kb = W1.heap.size := ⟨_, rfl⟩
          rw [← hkb] at hk0 hwk ⊢
          generalize W1.alloc (.cells keyV 63) = W2 at *
          have c0 := blk_cell hs0 0; have c1 := blk_cell hs0 1; have c2 := blk_cell hs0 2; have c3 := blk_cell hs0 3; have c4 := blk_cell hs0 4; have c5 := blk_cell hs0 5; have c6 := blk_cell hs0 6; have c7 := blk_cell hs0 7
          simp at c0 c1 c2 c3 c4 c5 c6 c7
          have hsz := (Array.getElem?_eq_some_iff.1 hs0).1
          have HY := Lib.hid (show _ ∧ _ ∧ _ ∧ _ ∧ _ from ⟨hk0, hw0, hs0, hr0, hB2⟩)
          clear hk0 hw0 hs0 hr0 hB2 hb1 hbW gW0 hwz hkb HX
          go_wp2_with fail
          go_quiet (fail)
          have HY2 := Lib.hid (show (W2.drewN nq).heap[kb]? = some (.cells keyV 63 (0, 0)) ∧ (W2.drewN nq).heap[w.heap.size + 1 + 1]? = some (.cells (wVal l) 63 (0, 0)) ∧ (W2.drewN nq).heap[w.heap.size]? = some (.cells #[.int .u32 s0, .int .u32 s1, .int .u32 s2, .int .u32 s3, .int .u32 s4, .int .u32 s5, .int .u32 s6, .int .u32 s7] 51 (0, 0)) ∧ (W2.drewN nq).heap[w.heap.size + 1]? = some (.cells #[.int .u32 0, .int .u32 0, .int .u32 0, .int .u32 0, .int .u32 0, .int .u32 0, .int .u32 0, .int .u32 0] 51 (0, 0)) ∧ Below w.heap.size w (W2.drewN nq) from ⟨HY.out.1, HY.out.2.1, HY.out.2.2.1, HY.out.2.2.2.1, below_drewN HY.out.2.2.2.2 _⟩)
          generalize W2.drewN nq = W3 at *
          clear c0 c1 c2 c3 c4 c5 c6 c7 HY hsz
          go_wp2
          go_loopw [11, 12, 13, 14, 15, 16, 17, 18, 19] (fun xa xb xc xd xe xf xg xh i wr => ∃ (k : Nat) (v0 v1 v2 v3 v4 v5 v6 v7 : Int), k ≤ 64 ∧ xa = .int .u32 v0 ∧ xb = .int .u32 v1 ∧ xc = .int .u32 v2 ∧ xd = .int .u32 v3 ∧ xe = .int .u32 v4 ∧ xf = .int .u32 v5 ∧ xg = .int .u32 v6 ∧ xh = .int .u32 v7 ∧ i = .int .i64 k ∧ stK l (s0, s1, s2, s3, s4, s5, s6, s7) k = (v0, v1, v2, v3, v4, v5, v6, v7) ∧ Below W3.heap.size W3 wr) (fun _ _ _ _ _ _ _ _ i _ => 64 - (intOf i).toNat)
          case atStart => exact ⟨0, s0, s1, s2, s3, s4, s5, s6, s7, by omega, rfl, rfl, rfl, rfl, rfl, rfl, rfl, rfl, rfl, rfl, Below.refl _ _⟩
          case round =>
            obtain ⟨k, v0, v1, v2, v3, v4, v5, v6, v7, hk, rfl, rfl, rfl, rfl, rfl, rfl, rfl, rfl, rfl, hS, hB⟩ := hrel
            by_cases hlt : k < 64
            case neg =>
              obtain rfl : k = 64 := by omega
              have HZ := Lib.hid (show _ ∧ _ from ⟨hS, hB⟩)
              have cc := blk_below HY2.out.2.2.1 hB (Array.getElem?_eq_some_iff.1 HY2.out.2.2.1).1
              have cr := blk_below HY2.out.2.2.2.1 hB (Array.getElem?_eq_some_iff.1 HY2.out.2.2.2.1).1
              have c0 := blk_cell cc 0; have c1 := blk_cell cc 1; have c2 := blk_cell cc 2; have c3 := blk_cell cc 3; have c4 := blk_cell cc 4; have c5 := blk_cell cc 5; have c6 := blk_cell cc 6; have c7 := blk_cell cc 7
              simp at c0 c1 c2 c3 c4 c5 c6 c7
              have hsz := (Array.getElem?_eq_some_iff.1 cc).1
              have hrz := (Array.getElem?_eq_some_iff.1 cr).1
              have HR := Lib.hid (show _ ∧ _ from ⟨cr, below_after HY2.out.2.2.2.2 hB HY2.out.2.2.2.2.size⟩)
              clear hS hB cc cr
              have d0 := blk_cell HR.out.1 0; have d1 := blk_cell HR.out.1 1; have d2 := blk_cell HR.out.1 2; have d3 := blk_cell HR.out.1 3; have d4 := blk_cell HR.out.1 4; have d5 := blk_cell HR.out.1 5; have d6 := blk_cell HR.out.1 6; have d7 := blk_cell HR.out.1 7
              simp at d0 d1 d2 d3 d4 d5 d6 d7
              have fr := fun j => blk_free HR.out.1 j
              go_wp2
              refine bodyPost_ret (v := .agg (stV (add8 (s0, s1, s2, s3, s4, s5, s6, s7) (v0, v1, v2, v3, v4, v5, v6, v7)))) ?_ rfl ⟨by rw [HZ.out.1], below8 (by omega) HR.out.2⟩
              exact results_cell_row Tryd.results31 _ _ (w.heap.size + 1) 51 _ (0, 0) _ rfl (box8_set HR.out.1) Tryd.underlying51 rfl (by kernel_rfl)
            have i1 : (k : Int) < 64 := by omega
            have uk : IntKind.i64.wrap ((k : Int) + 1) = (k : Int) + 1 := wrap_id (by omega)
            have cz : ∀ m, (wr.drewN m).cell? ⟨kb, k, none⟩ = some (.int .u32 (kAt k)) := fun _ => (blk_cell (blk_below HY2.out.1 hB (Array.getElem?_eq_some_iff.1 HY2.out.1).1) k).trans (keyV_get hlt)
            have cr : ∀ m, (wr.drewN m).cell? ⟨w.heap.size + 1 + 1, k, none⟩ = some (.int .u32 (wAt l k)) := fun _ => (blk_cell (blk_below HY2.out.2.1 hB (Array.getElem?_eq_some_iff.1 HY2.out.2.1).1) k).trans (wVal_get l hlt)
            have hgm : ∀ m, kb < (wr.drewN m).heap.size := fun _ => Nat.lt_of_lt_of_le (Array.getElem?_eq_some_iff.1 HY2.out.1).1 hB.size
            have hgn : ∀ m, w.heap.size + 1 + 1 < (wr.drewN m).heap.size := fun _ => Nat.lt_of_lt_of_le (Array.getElem?_eq_some_iff.1 HY2.out.2.1).1 hB.size
            have hS1 := stK_succ l (s0, s1, s2, s3, s4, s5, s6, s7) k
            rw [hS] at hS1
            have hok := stK_ok l HOK.out k
            rw [hS] at hok
            have o4 : isU32 v4 := hok.2.2.2.2.1
            have o0 : isU32 v0 := hok.1
            have HZ := Lib.hid (show _ ∧ _ from ⟨hB, hS1⟩)
            clear hB hS hS1 hok
            generalize kAt k = kk at *
            generalize wAt l k = wk at *
            have sS : ∀ w', (∃ m, w' = wr.drewN m) → w'.cell? ⟨kb, k, none⟩ = some (.int .u32 kk) ∧ w'.cell? ⟨w.heap.size + 1 + 1, k, none⟩ = some (.int .u32 wk) ∧ kb < w'.heap.size ∧ w.heap.size + 1 + 1 < w'.heap.size := fun w' hm => by obtain ⟨m, rfl⟩ := hm; exact ⟨cz m, cr m, hgm m, hgn m⟩
            go_wp2_with fail
            have sB0 := sS wr.drew ⟨1, rfl⟩
            refine wp_region_from 0 2 (fun w' => w'.cell? ⟨kb, k, none⟩ = some (.int .u32 kk) ∧ w'.cell? ⟨w.heap.size + 1 + 1, k, none⟩ = some (.int .u32 wk) ∧ kb < w'.heap.size ∧ w.heap.size + 1 + 1 < w'.heap.size) (by kernel_rfl) (by kernel_rfl) (by decide) (by kernel_rfl) sB0 ?_
            simp only [List.drop_zero, List.take_succ_cons, List.take_zero]
            refine wpHeld_cons (.int .u32 v7) (by kernel_rfl) ?_ ?_
            · rintro w' ⟨hcz, hcr, hgg, hg2⟩
              try go_simp
              try (rw [IntKind.wrap_u32']; try omega)
              try rfl
            refine wpHeld_cons (.int .u32 v4) (by kernel_rfl) ?_ ?_
            · rintro w' ⟨hcz, hcr, hgg, hg2⟩
              try go_simp
              try (rw [IntKind.wrap_u32']; try omega)
              try rfl
            refine wpHeld_nil ?_
            go_simp
            have sB : ∃ m, wr.drew = wr.drewN m := ⟨1, rfl⟩
            refine wpAnyH_from 3 1 (fun _ _ _ _ _ h => h) (by kernel_rfl) (by decide) (by kernel_rfl) (sS _ sB) ?_
            simp only [List.drop_succ_cons, List.drop_zero, List.take_succ_cons, List.take_zero]
            refine wpHeld_cons (.int .u32 v4) (by kernel_rfl) ?_ ?_
            · rintro w' ⟨hcz, hcr, hgg, hg2⟩
              try go_simp
              try (rw [IntKind.wrap_u32']; try omega)
              try rfl
            refine wpHeld_nil ?_
            go_simp
            refine wpAnyH_from 6 1 (fun _ _ _ _ _ h => h) (by kernel_rfl) (by decide) (by kernel_rfl) (sS _ sB) ?_
            simp only [List.drop_succ_cons, List.drop_zero, List.take_succ_cons, List.take_zero]
            refine wpHeld_cons (.int .u32 v4) (by kernel_rfl) ?_ ?_
            · rintro w' ⟨hcz, hcr, hgg, hg2⟩
              try go_simp
              try (rw [IntKind.wrap_u32']; try omega)
              try rfl
            refine wpHeld_nil ?_
            go_simp
            refine wpAnyH_from 10 8 (fun _ _ _ _ _ h => h) (by kernel_rfl) (by decide) (by kernel_rfl) (sS _ sB) ?_
            simp only [List.drop_succ_cons, List.drop_zero, List.take_succ_cons, List.take_zero]
            refine wpHeld_cons (.int .u32 v4) (by kernel_rfl) ?_ ?_
            · rintro w' ⟨hcz, hcr, hgg, hg2⟩
              try go_simp
              try (rw [IntKind.wrap_u32']; try omega)
              try rfl
            refine wpHeld_cons (.int .u32 v5) (by kernel_rfl) ?_ ?_
            · rintro w' ⟨hcz, hcr, hgg, hg2⟩
              try go_simp
              try (rw [IntKind.wrap_u32']; try omega)
              try rfl
            refine wpHeld_cons (.int .u32 (bits .and .u32 v4 v5)) (by kernel_rfl) ?_ ?_
            · rintro w' ⟨hcz, hcr, hgg, hg2⟩
              try go_simp
              try (rw [IntKind.wrap_u32']; try omega)
              try rfl
            refine wpHeld_cons (.int .u32 v4) (by kernel_rfl) ?_ ?_
            · rintro w' ⟨hcz, hcr, hgg, hg2⟩
              try go_simp
              try (rw [IntKind.wrap_u32']; try omega)
              try rfl
            refine wpHeld_cons (.int .u32 (bits .xor .u32 IntKind.u32.max v4)) (by kernel_rfl) ?_ ?_
            · rintro w' ⟨hcz, hcr, hgg, hg2⟩
              try go_simp
              try (rw [IntKind.wrap_u32']; try omega)
              try rfl
            refine wpHeld_cons (.int .u32 v6) (by kernel_rfl) ?_ ?_
            · rintro w' ⟨hcz, hcr, hgg, hg2⟩
              try go_simp
              try (rw [IntKind.wrap_u32']; try omega)
              try rfl
            refine wpHeld_cons (.int .u32 (bits .and .u32 (bits .xor .u32 IntKind.u32.max v4) v6)) (by kernel_rfl) ?_ ?_
            · rintro w' ⟨hcz, hcr, hgg, hg2⟩
              try go_simp
              try (rw [IntKind.wrap_u32']; try omega)
              try rfl
            refine wpHeld_cons (.int .u32 (bits .xor .u32 (bits .and .u32 v4 v5) (bits .and .u32 (bits .xor .u32 IntKind.u32.max v4) v6))) (by kernel_rfl) ?_ ?_
            · rintro w' ⟨hcz, hcr, hgg, hg2⟩
              try go_simp
              try (rw [IntKind.wrap_u32']; try omega)
              try rfl
            refine wpHeld_nil ?_
            go_simp
            refine wpAnyH_from 19 3 (fun _ _ _ _ _ h => h) (by kernel_rfl) (by decide) (by kernel_rfl) (sS _ sB) ?_
            simp only [List.drop_succ_cons, List.drop_zero, List.take_succ_cons, List.take_zero]
            refine wpHeld_cons (.int .i64 (k : Int)) (by kernel_rfl) ?_ ?_
            · rintro w' ⟨hcz, hcr, hgg, hg2⟩
              try go_simp
              try (rw [IntKind.wrap_u32']; try omega)
              try rfl
            refine wpHeld_cons (.pointer (some ⟨kb, k, none⟩)) (by kernel_rfl) ?_ ?_
            · rintro w' ⟨hcz, hcr, hgg, hg2⟩
              try go_simp
              try (rw [IntKind.wrap_u32']; try omega)
              try rfl
            refine wpHeld_cons (.int .u32 kk) (by kernel_rfl) ?_ ?_
            · rintro w' ⟨hcz, hcr, hgg, hg2⟩
              try go_simp
              try (rw [IntKind.wrap_u32']; try omega)
              try rfl
            refine wpHeld_nil ?_
            go_simp
            refine wpAnyH_from 23 3 (fun _ _ _ _ _ h => h) (by kernel_rfl) (by decide) (by kernel_rfl) (sS _ sB) ?_
            simp only [List.drop_succ_cons, List.drop_zero, List.take_succ_cons, List.take_zero]
            refine wpHeld_cons (.int .i64 (k : Int)) (by kernel_rfl) ?_ ?_
            · rintro w' ⟨hcz, hcr, hgg, hg2⟩
              try go_simp
              try (rw [IntKind.wrap_u32']; try omega)
              try rfl
            refine wpHeld_cons (.pointer (some ⟨w.heap.size + 1 + 1, k, none⟩)) (by kernel_rfl) ?_ ?_
            · rintro w' ⟨hcz, hcr, hgg, hg2⟩
              try go_simp
              try (rw [IntKind.wrap_u32']; try omega)
              try rfl
            refine wpHeld_cons (.int .u32 wk) (by kernel_rfl) ?_ ?_
            · rintro w' ⟨hcz, hcr, hgg, hg2⟩
              try go_simp
              try (rw [IntKind.wrap_u32']; try omega)
              try rfl
            refine wpHeld_nil ?_
            go_simp
            refine wpAnyH_one (i := 2) (by kernel_rfl) rfl (by kernel_rfl) (fun K' hK' => ?_)
            go_simp
            refine (rror_any v4 6 _ o4 (by omega) (by omega)).mono ?_
            rintro e w' ⟨rfl, mc, hw'⟩
            have sC : ∃ m, w' = wr.drewN m := by obtain ⟨m, hm⟩ := sB; rw [hm] at hw'; exact ⟨m + mc, by rw [hw']; exact drewN_add wr m mc⟩
            clear sB hw'
            have sB := sC
            clear sC
            refine hK' _ _ (sS _ sB) ?_
            clear hK' K'
            refine wpAnyH_one (i := 4) (by kernel_rfl) rfl (by kernel_rfl) (fun K' hK' => ?_)
            go_simp
            refine (rror_any v4 11 _ o4 (by omega) (by omega)).mono ?_
            rintro e w' ⟨rfl, mc, hw'⟩
            have sC : ∃ m, w' = wr.drewN m := by obtain ⟨m, hm⟩ := sB; rw [hm] at hw'; exact ⟨m + mc, by rw [hw']; exact drewN_add wr m mc⟩
            clear sB hw'
            have sB := sC
            clear sC
            refine hK' _ _ (sS _ sB) ?_
            clear hK' K'
            refine wpAnyH_from 5 1 (fun _ _ _ _ _ h => h) (by kernel_rfl) (by decide) (by kernel_rfl) (sS _ sB) ?_
            simp only [List.drop_succ_cons, List.drop_zero, List.take_succ_cons, List.take_zero]
            refine wpHeld_cons (.int .u32 (bits .xor .u32 (ror v4 6) (ror v4 11))) (by kernel_rfl) ?_ ?_
            · rintro w' ⟨hcz, hcr, hgg, hg2⟩
              try go_simp
              try (rw [IntKind.wrap_u32']; try omega)
              try rfl
            refine wpHeld_nil ?_
            go_simp
            refine wpAnyH_one (i := 7) (by kernel_rfl) rfl (by kernel_rfl) (fun K' hK' => ?_)
            go_simp
            refine (rror_any v4 25 _ o4 (by omega) (by omega)).mono ?_
            rintro e w' ⟨rfl, mc, hw'⟩
            have sC : ∃ m, w' = wr.drewN m := by obtain ⟨m, hm⟩ := sB; rw [hm] at hw'; exact ⟨m + mc, by rw [hw']; exact drewN_add wr m mc⟩
            clear sB hw'
            have sB := sC
            clear sC
            refine hK' _ _ (sS _ sB) ?_
            clear hK' K'
            refine wpAnyH_from 8 2 (fun _ _ _ _ _ h => h) (by kernel_rfl) (by decide) (by kernel_rfl) (sS _ sB) ?_
            simp only [List.drop_succ_cons, List.drop_zero, List.take_succ_cons, List.take_zero]
            refine wpHeld_cons (.int .u32 (bits .xor .u32 (bits .xor .u32 (ror v4 6) (ror v4 11)) (ror v4 25))) (by kernel_rfl) ?_ ?_
            · rintro w' ⟨hcz, hcr, hgg, hg2⟩
              try go_simp
              try (rw [IntKind.wrap_u32']; try omega)
              try rfl
            refine wpHeld_cons (.int .u32 ((v7 + bits .xor .u32 (bits .xor .u32 (ror v4 6) (ror v4 11)) (ror v4 25)) % 4294967296)) (by kernel_rfl) ?_ ?_
            · rintro w' ⟨hcz, hcr, hgg, hg2⟩
              try go_simp
              try (rw [IntKind.wrap_u32']; try omega)
              try rfl
            refine wpHeld_nil ?_
            go_simp
            refine wpAnyH_from 18 1 (fun _ _ _ _ _ h => h) (by kernel_rfl) (by decide) (by kernel_rfl) (sS _ sB) ?_
            simp only [List.drop_succ_cons, List.drop_zero, List.take_succ_cons, List.take_zero]
            refine wpHeld_cons (.int .u32 ((v7 + bits .xor .u32 (bits .xor .u32 (ror v4 6) (ror v4 11)) (ror v4 25) + bits .xor .u32 (bits .and .u32 v4 v5) (bits .and .u32 (bits .xor .u32 IntKind.u32.max v4) v6)) % 4294967296)) (by kernel_rfl) ?_ ?_
            · rintro w' ⟨hcz, hcr, hgg, hg2⟩
              try go_simp
              try (rw [IntKind.wrap_u32']; try omega)
              try rfl
            refine wpHeld_nil ?_
            go_simp
            refine wpAnyH_from 22 1 (fun _ _ _ _ _ h => h) (by kernel_rfl) (by decide) (by kernel_rfl) (sS _ sB) ?_
            simp only [List.drop_succ_cons, List.drop_zero, List.take_succ_cons, List.take_zero]
            refine wpHeld_cons (.int .u32 ((v7 + bits .xor .u32 (bits .xor .u32 (ror v4 6) (ror v4 11)) (ror v4 25) + bits .xor .u32 (bits .and .u32 v4 v5) (bits .and .u32 (bits .xor .u32 IntKind.u32.max v4) v6) + kk) % 4294967296)) (by kernel_rfl) ?_ ?_
            · rintro w' ⟨hcz, hcr, hgg, hg2⟩
              try go_simp
              try (rw [IntKind.wrap_u32']; try omega)
              try rfl
            refine wpHeld_nil ?_
            go_simp
            refine wpAnyH_from 26 1 (fun _ _ _ _ _ h => h) (by kernel_rfl) (by decide) (by kernel_rfl) (sS _ sB) ?_
            simp only [List.drop_succ_cons, List.drop_zero, List.take_succ_cons, List.take_zero]
            refine wpHeld_cons (.int .u32 ((v7 + bits .xor .u32 (bits .xor .u32 (ror v4 6) (ror v4 11)) (ror v4 25) + bits .xor .u32 (bits .and .u32 v4 v5) (bits .and .u32 (bits .xor .u32 IntKind.u32.max v4) v6) + kk + wk) % 4294967296)) (by kernel_rfl) ?_ ?_
            · rintro w' ⟨hcz, hcr, hgg, hg2⟩
              try go_simp
              try (rw [IntKind.wrap_u32']; try omega)
              try rfl
            refine wpHeld_nil ?_
            go_simp
            refine wpAnyH_one (i := 27) (by kernel_rfl) rfl (by kernel_rfl) (fun K' hK' => ?_)
            go_simp
            refine hK' _ _ (sS _ sB) ?_
            clear hK' K'
            refine wpAnyH_done (by kernel_rfl) ?_ _
            refine NoPanic.normal ?_
            obtain ⟨m, hm⟩ := sB
            have hBB : Below W3.heap.size W3 w' := by rw [hm]; exact below_drewN HZ.out.1 m
            have HBB := Lib.hid hBB
            clear hBB hm
            obtain ⟨p, hp⟩ : ∃ p, p = (v7 + bits .xor .u32 (bits .xor .u32 (ror v4 6) (ror v4 11)) (ror v4 25) + bits .xor .u32 (bits .and .u32 v4 v5) (bits .and .u32 (bits .xor .u32 IntKind.u32.max v4) v6) + kk + wk) % 4294967296 := ⟨_, rfl⟩
            rw [← hp]
            rw [← pI_eq] at hp
            have HP := Lib.hid hp
            clear hp cz cr hgm hgn sS
            go_wp2_with fail
            refine (rror_any v0 2 _ o0 (by omega) (by omega)).mono ?_; rintro e w2 ⟨rfl, m2, hw2⟩; replace HBB := Lib.hid (show Below W3.heap.size W3 w2 from by rw [hw2]; exact below_drewN HBB.out m2); clear hw2 m2
            go_wp2_with fail
            refine (rror_any v0 13 _ o0 (by omega) (by omega)).mono ?_; rintro e w2 ⟨rfl, m2, hw2⟩; replace HBB := Lib.hid (show Below W3.heap.size W3 w2 from by rw [hw2]; exact below_drewN HBB.out m2); clear hw2 m2
            go_wp2_with fail
            refine (rror_any v0 22 _ o0 (by omega) (by omega)).mono ?_; rintro e w2 ⟨rfl, m2, hw2⟩; replace HBB := Lib.hid (show Below W3.heap.size W3 w2 from by rw [hw2]; exact below_drewN HBB.out m2); clear hw2 m2
            go_wp2_with fail
            go_roundw
            case rel => exact ⟨k + 1, _, _, _, _, _, _, _, _, by omega, rfl, rfl, rfl, rfl, rfl, rfl, rfl, rfl, by go_num, by
              rw [HZ.out.2]; unfold stp; dsimp only; rw [← HP.out]
              refine Prod.ext ?_ rfl
              show (p + qI v0 v1 v2) % 4294967296 = (p + qI v0 v1 v2 % 4294967296) % 4294967296
              omega, HBB.out⟩
            case measure => simp [intOf]; omega
        have iT : (T : Int) < 64 := by omega
        have uk : IntKind.i64.wrap ((T : Int) + 1) = (T : Int) + 1 := wrap_id (by omega)
        obtain ⟨p, hp⟩ : ∃ p : Nat, p = k + 1 := ⟨_, rfl⟩
        obtain ⟨q, hq⟩ : ∃ q : Nat, q = k + 14 := ⟨_, rfl⟩
        obtain ⟨r, hr⟩ : ∃ r : Nat, r = k + 9 := ⟨_, rfl⟩
        have up : IntKind.i64.wrap ((T : Int) - 15) = (p : Int) := (wrap_id (by omega)).trans (by omega)
        have uq : IntKind.i64.wrap ((T : Int) - 2) = (q : Int) := (wrap_id (by omega)).trans (by omega)
        have ur : IntKind.i64.wrap ((T : Int) - 7) = (r : Int) := (wrap_id (by omega)).trans (by omega)
        have uz : IntKind.i64.wrap ((T : Int) - 16) = (k : Int) := (wrap_id (by omega)).trans (by omega)
        have cp := (blk_cell hX p).trans (hA.get (i := p) (by omega) (by omega))
        have cq := (blk_cell hX q).trans (hA.get (i := q) (by omega) (by omega))
        have hw := wAt_next l hlt
        rw [← hT, ← hp, ← hr, ← hq] at hw
        have i3 : (p : Int) < 64 := by omega
        have i4 : (q : Int) < 64 := by omega
        have i5 : (r : Int) < 64 := by omega
        have i6 : (k : Int) < 64 := by omega
        have uxp := wAt_u32 l p
        have uxq := wAt_u32 l q
        have cT : ∀ m, (wr.drewN m).cell? ⟨w.heap.size + 1 + 1, T, none⟩ = some (.int .u32 (if T < 16 + k then wAt l T else 0)) := fun _ => (blk_cell hX T).trans (hA.2 T (by omega))
        have cr : ∀ m, (wr.drewN m).cell? ⟨w.heap.size + 1 + 1, r, none⟩ = some (.int .u32 (wAt l r)) := fun _ => (blk_cell hX r).trans (hA.get (i := r) (by omega) (by omega))
        have cz : ∀ m, (wr.drewN m).cell? ⟨w.heap.size + 1 + 1, k, none⟩ = some (.int .u32 (wAt l k)) := fun _ => (blk_cell hX k).trans (hA.get (i := k) (by omega) (by omega))
        have fT : ∀ m, (wr.drewN m).frozen? ⟨w.heap.size + 1 + 1, T, none⟩ = false := fun _ => blk_free hX T
        have hgm : ∀ m, w.heap.size + 1 + 1 < (wr.drewN m).heap.size := fun _ => hgr
        have HA := Lib.hid (show _ ∧ _ ∧ _ ∧ _ from ⟨hX, hA, hB, hw⟩)
        have HT := Lib.hid hT
        have nTk : T ≠ k := by omega
        have nTr : T ≠ r := by omega
        clear hX hA hB hw hT hp hq hr hBw
        generalize (if T < 16 + k then wAt l T else 0) = zz at *
        generalize wAt l p = xp at *
        generalize wAt l q = xq at *
        generalize wAt l r = xr at *
        generalize wAt l k = xz at *
        have sS : ∀ w', (∃ m, w' = wr.drewN m) → w'.cell? ⟨w.heap.size + 1 + 1, k, none⟩ = some (.int .u32 xz) ∧ w'.cell? ⟨w.heap.size + 1 + 1, r, none⟩ = some (.int .u32 xr) ∧ w.heap.size + 1 + 1 < w'.heap.size := fun w' hm => by obtain ⟨m, rfl⟩ := hm; exact ⟨cz m, cr m, hgm m⟩
        go_wp2_with fail
        have sB0 := sS wr.drew ⟨1, rfl⟩
        refine wp_region_from 0 6 (fun w' => w'.cell? ⟨w.heap.size + 1 + 1, k, none⟩ = some (.int .u32 xz) ∧ w'.cell? ⟨w.heap.size + 1 + 1, r, none⟩ = some (.int .u32 xr) ∧ w.heap.size + 1 + 1 < w'.heap.size) (by kernel_rfl) (by kernel_rfl) (by decide) (by kernel_rfl) sB0 ?_
        simp only [List.drop_zero, List.take_succ_cons, List.take_zero]
        refine wpHeld_cons (.int .i64 (T : Int)) (by kernel_rfl) ?_ ?_
        · rintro w' ⟨hcz, hcr, hgg⟩
          try go_simp
          try (rw [IntKind.wrap_u32']; try omega)
          try rfl
        refine wpHeld_cons (.int .i64 (T : Int)) (by kernel_rfl) ?_ ?_
        · rintro w' ⟨hcz, hcr, hgg⟩
          try go_simp
          try (rw [IntKind.wrap_u32']; try omega)
          try rfl
        refine wpHeld_cons (.int .i64 (k : Int)) (by kernel_rfl) ?_ ?_
        · rintro w' ⟨hcz, hcr, hgg⟩
          try go_simp
          try (rw [IntKind.wrap_u32']; try omega)
          try rfl
        refine wpHeld_cons (.pointer (some ⟨w.heap.size + 1 + 1, k, none⟩)) (by kernel_rfl) ?_ ?_
        · rintro w' ⟨hcz, hcr, hgg⟩
          try go_simp
          try (rw [IntKind.wrap_u32']; try omega)
          try rfl
        refine wpHeld_cons (.int .u32 xz) (by kernel_rfl) ?_ ?_
        · rintro w' ⟨hcz, hcr, hgg⟩
          try go_simp
          try (rw [IntKind.wrap_u32']; try omega)
          try rfl
        refine wpHeld_cons (.int .u32 xp) (by kernel_rfl) ?_ ?_
        · rintro w' ⟨hcz, hcr, hgg⟩
          try go_simp
          try (rw [IntKind.wrap_u32']; try omega)
          try rfl
        refine wpHeld_nil ?_
        go_simp
        have sB : ∃ m, wr.drew = wr.drewN m := ⟨1, rfl⟩
        refine wpAnyH_from 7 1 (fun _ _ _ _ _ h => h) (by kernel_rfl) (by decide) (by kernel_rfl) (sS _ sB) ?_
        simp only [List.drop_succ_cons, List.drop_zero, List.take_succ_cons, List.take_zero]
        refine wpHeld_cons (.int .u32 xp) (by kernel_rfl) ?_ ?_
        · rintro w' ⟨hcz, hcr, hgg⟩
          try go_simp
          try (rw [IntKind.wrap_u32']; try omega)
          try rfl
        refine wpHeld_nil ?_
        go_simp
        refine wpAnyH_from 10 2 (fun _ _ _ _ _ h => h) (by kernel_rfl) (by decide) (by kernel_rfl) (sS _ sB) ?_
        simp only [List.drop_succ_cons, List.drop_zero, List.take_succ_cons, List.take_zero]
        refine wpHeld_cons (.int .u32 xp) (by kernel_rfl) ?_ ?_
        · rintro w' ⟨hcz, hcr, hgg⟩
          try go_simp
          try (rw [IntKind.wrap_u32']; try omega)
          try rfl
        refine wpHeld_cons (.int .u32 (xp / 8)) (by kernel_rfl) ?_ ?_
        · rintro w' ⟨hcz, hcr, hgg⟩
          try go_simp
          try (rw [IntKind.wrap_u32']; try omega)
          try rfl
        refine wpHeld_nil ?_
        go_simp
        refine wpAnyH_from 14 4 (fun _ _ _ _ _ h => h) (by kernel_rfl) (by decide) (by kernel_rfl) (sS _ sB) ?_
        simp only [List.drop_succ_cons, List.drop_zero, List.take_succ_cons, List.take_zero]
        refine wpHeld_cons (.int .i64 (T : Int)) (by kernel_rfl) ?_ ?_
        · rintro w' ⟨hcz, hcr, hgg⟩
          try go_simp
          try (rw [IntKind.wrap_u32']; try omega)
          try rfl
        refine wpHeld_cons (.int .i64 (r : Int)) (by kernel_rfl) ?_ ?_
        · rintro w' ⟨hcz, hcr, hgg⟩
          try go_simp
          try (rw [IntKind.wrap_u32']; try omega)
          try rfl
        refine wpHeld_cons (.pointer (some ⟨w.heap.size + 1 + 1, r, none⟩)) (by kernel_rfl) ?_ ?_
        · rintro w' ⟨hcz, hcr, hgg⟩
          try go_simp
          try (rw [IntKind.wrap_u32']; try omega)
          try rfl
        refine wpHeld_cons (.int .u32 xr) (by kernel_rfl) ?_ ?_
        · rintro w' ⟨hcz, hcr, hgg⟩
          try go_simp
          try (rw [IntKind.wrap_u32']; try omega)
          try rfl
        refine wpHeld_nil ?_
        go_simp
        refine wpAnyH_from 19 1 (fun _ _ _ _ _ h => h) (by kernel_rfl) (by decide) (by kernel_rfl) (sS _ sB) ?_
        simp only [List.drop_succ_cons, List.drop_zero, List.take_succ_cons, List.take_zero]
        refine wpHeld_cons (.int .u32 xq) (by kernel_rfl) ?_ ?_
        · rintro w' ⟨hcz, hcr, hgg⟩
          try go_simp
          try (rw [IntKind.wrap_u32']; try omega)
          try rfl
        refine wpHeld_nil ?_
        go_simp
        refine wpAnyH_from 21 1 (fun _ _ _ _ _ h => h) (by kernel_rfl) (by decide) (by kernel_rfl) (sS _ sB) ?_
        simp only [List.drop_succ_cons, List.drop_zero, List.take_succ_cons, List.take_zero]
        refine wpHeld_cons (.int .u32 xq) (by kernel_rfl) ?_ ?_
        · rintro w' ⟨hcz, hcr, hgg⟩
          try go_simp
          try (rw [IntKind.wrap_u32']; try omega)
          try rfl
        refine wpHeld_nil ?_
        go_simp
        refine wpAnyH_from 24 2 (fun _ _ _ _ _ h => h) (by kernel_rfl) (by decide) (by kernel_rfl) (sS _ sB) ?_
        simp only [List.drop_succ_cons, List.drop_zero, List.take_succ_cons, List.take_zero]
        refine wpHeld_cons (.int .u32 xq) (by kernel_rfl) ?_ ?_
        · rintro w' ⟨hcz, hcr, hgg⟩
          try go_simp
          try (rw [IntKind.wrap_u32']; try omega)
          try rfl
        refine wpHeld_cons (.int .u32 (xq / 1024)) (by kernel_rfl) ?_ ?_
        · rintro w' ⟨hcz, hcr, hgg⟩
          try go_simp
          try (rw [IntKind.wrap_u32']; try omega)
          try rfl
        refine wpHeld_nil ?_
        go_simp
        refine wpAnyH_one (i := 6) (by kernel_rfl) rfl (by kernel_rfl) (fun K' hK' => ?_)
        go_simp
        refine (rror_any xp 7 _ uxp (by omega) (by omega)).mono ?_
        rintro e w' ⟨rfl, mc, hw'⟩
        have sC : ∃ m, w' = wr.drewN m := by obtain ⟨m, hm⟩ := sB; rw [hm] at hw'; exact ⟨m + mc, by rw [hw']; exact drewN_add wr m mc⟩
        clear sB hw'
        have sB := sC
        clear sC
        refine hK' _ _ (sS _ sB) ?_
        clear hK' K'
        refine wpAnyH_one (i := 8) (by kernel_rfl) rfl (by kernel_rfl) (fun K' hK' => ?_)
        go_simp
        refine (rror_any xp 18 _ uxp (by omega) (by omega)).mono ?_
        rintro e w' ⟨rfl, mc, hw'⟩
        have sC : ∃ m, w' = wr.drewN m := by obtain ⟨m, hm⟩ := sB; rw [hm] at hw'; exact ⟨m + mc, by rw [hw']; exact drewN_add wr m mc⟩
        clear sB hw'
        have sB := sC
        clear sC
        refine hK' _ _ (sS _ sB) ?_
        clear hK' K'
        refine wpAnyH_from 9 1 (fun _ _ _ _ _ h => h) (by kernel_rfl) (by decide) (by kernel_rfl) (sS _ sB) ?_
        simp only [List.drop_succ_cons, List.drop_zero, List.take_succ_cons, List.take_zero]
        refine wpHeld_cons (.int .u32 (bits .xor .u32 (ror xp 7) (ror xp 18))) (by kernel_rfl) ?_ ?_
        · rintro w' ⟨hcz, hcr, hgg⟩
          try go_simp
          try (rw [IntKind.wrap_u32']; try omega)
          try rfl
        refine wpHeld_nil ?_
        go_simp
        refine wpAnyH_from 12 2 (fun _ _ _ _ _ h => h) (by kernel_rfl) (by decide) (by kernel_rfl) (sS _ sB) ?_
        simp only [List.drop_succ_cons, List.drop_zero, List.take_succ_cons, List.take_zero]
        refine wpHeld_cons (.int .u32 (bits .xor .u32 (bits .xor .u32 (ror xp 7) (ror xp 18)) (xp / 8))) (by kernel_rfl) ?_ ?_
        · rintro w' ⟨hcz, hcr, hgg⟩
          try go_simp
          try (rw [IntKind.wrap_u32']; try omega)
          try rfl
        refine wpHeld_cons (.int .u32 ((xz + bits .xor .u32 (bits .xor .u32 (ror xp 7) (ror xp 18)) (xp / 8)) % 4294967296)) (by kernel_rfl) ?_ ?_
        · rintro w' ⟨hcz, hcr, hgg⟩
          try go_simp
          try (rw [IntKind.wrap_u32']; try omega)
          try rfl
        refine wpHeld_nil ?_
        go_simp
        refine wpAnyH_from 18 1 (fun _ _ _ _ _ h => h) (by kernel_rfl) (by decide) (by kernel_rfl) (sS _ sB) ?_
        simp only [List.drop_succ_cons, List.drop_zero, List.take_succ_cons, List.take_zero]
        refine wpHeld_cons (.int .u32 ((xz + bits .xor .u32 (bits .xor .u32 (ror xp 7) (ror xp 18)) (xp / 8) + xr) % 4294967296)) (by kernel_rfl) ?_ ?_
        · rintro w' ⟨hcz, hcr, hgg⟩
          try go_simp
          try (rw [IntKind.wrap_u32']; try omega)
          try rfl
        refine wpHeld_nil ?_
        go_simp
        refine wpAnyH_one (i := 20) (by kernel_rfl) rfl (by kernel_rfl) (fun K' hK' => ?_)
        go_simp
        refine (rror_any xq 17 _ uxq (by omega) (by omega)).mono ?_
        rintro e w' ⟨rfl, mc, hw'⟩
        have sC : ∃ m, w' = wr.drewN m := by obtain ⟨m, hm⟩ := sB; rw [hm] at hw'; exact ⟨m + mc, by rw [hw']; exact drewN_add wr m mc⟩
        clear sB hw'
        have sB := sC
        clear sC
        refine hK' _ _ (sS _ sB) ?_
        clear hK' K'
        refine wpAnyH_one (i := 22) (by kernel_rfl) rfl (by kernel_rfl) (fun K' hK' => ?_)
        go_simp
        refine (rror_any xq 19 _ uxq (by omega) (by omega)).mono ?_
        rintro e w' ⟨rfl, mc, hw'⟩
        have sC : ∃ m, w' = wr.drewN m := by obtain ⟨m, hm⟩ := sB; rw [hm] at hw'; exact ⟨m + mc, by rw [hw']; exact drewN_add wr m mc⟩
        clear sB hw'
        have sB := sC
        clear sC
        refine hK' _ _ (sS _ sB) ?_
        clear hK' K'
        refine wpAnyH_from 23 1 (fun _ _ _ _ _ h => h) (by kernel_rfl) (by decide) (by kernel_rfl) (sS _ sB) ?_
        simp only [List.drop_succ_cons, List.drop_zero, List.take_succ_cons, List.take_zero]
        refine wpHeld_cons (.int .u32 (bits .xor .u32 (ror xq 17) (ror xq 19))) (by kernel_rfl) ?_ ?_
        · rintro w' ⟨hcz, hcr, hgg⟩
          try go_simp
          try (rw [IntKind.wrap_u32']; try omega)
          try rfl
        refine wpHeld_nil ?_
        go_simp
        refine wpAnyH_from 26 2 (fun _ _ _ _ _ h => h) (by kernel_rfl) (by decide) (by kernel_rfl) (sS _ sB) ?_
        simp only [List.drop_succ_cons, List.drop_zero, List.take_succ_cons, List.take_zero]
        refine wpHeld_cons (.int .u32 (bits .xor .u32 (bits .xor .u32 (ror xq 17) (ror xq 19)) (xq / 1024))) (by kernel_rfl) ?_ ?_
        · rintro w' ⟨hcz, hcr, hgg⟩
          try go_simp
          try (rw [IntKind.wrap_u32']; try omega)
          try rfl
        refine wpHeld_cons (.int .u32 ((xz + bits .xor .u32 (bits .xor .u32 (ror xp 7) (ror xp 18)) (xp / 8) + xr + bits .xor .u32 (bits .xor .u32 (ror xq 17) (ror xq 19)) (xq / 1024)) % 4294967296)) (by kernel_rfl) ?_ ?_
        · rintro w' ⟨hcz, hcr, hgg⟩
          try go_simp
          try (rw [IntKind.wrap_u32']; try omega)
          try rfl
        refine wpHeld_nil ?_
        go_simp
        refine wpAnyH_from 28 1 (fun _ _ _ _ _ h => h) (by kernel_rfl) (by decide) (by kernel_rfl) (sS _ sB) ?_
        simp only [List.drop_succ_cons, List.drop_zero, List.take_succ_cons, List.take_zero]
        refine wpHeld_cons (.pointer (some ⟨w.heap.size + 1 + 1, T, none⟩)) (by kernel_rfl) ?_ ?_
        · rintro w' ⟨hcz, hcr, hgg⟩
          try go_simp
          try (rw [IntKind.wrap_u32']; try omega)
          try rfl
        refine wpHeld_nil ?_
        go_simp
        obtain ⟨m, hm⟩ := sB
        have cT1 : w'.cell? ⟨w.heap.size + 1 + 1, T, none⟩ = some (.int .u32 zz) := by rw [hm]; exact cT m
        have fT1 : w'.frozen? ⟨w.heap.size + 1 + 1, T, none⟩ = false := by rw [hm]; exact fT m
        have hg1 : w.heap.size + 1 + 1 < w'.heap.size := by rw [hm]; exact hgm m
        have HA2 := Lib.hid (show w'.heap[w.heap.size + 1 + 1]? = some (.cells X 63 (0, 0)) ∧ Arr X l (16 + k) ∧ Below (w.heap.size + 1 + 1) W w' ∧ wAt l T = nextW xz xp xr xq from by rw [hm]; exact ⟨HA.out.1, HA.out.2.1, below_drewN HA.out.2.2.1 _, HA.out.2.2.2⟩)
        have cz1 : w'.cell? ⟨w.heap.size + 1 + 1, k, none⟩ = some (.int .u32 xz) := by rw [hm]; exact cz m
        have cr1 : w'.cell? ⟨w.heap.size + 1 + 1, r, none⟩ = some (.int .u32 xr) := by rw [hm]; exact cr m
        clear hm
        refine wpAnyH_one (i := 29) (by kernel_rfl) rfl (by kernel_rfl) (fun K' hK' => ?_)
        go_simp
        have hX2 := cells_setU (i := T) (v := .int .u32 ((xz + bits .xor .u32 (bits .xor .u32 (ror xp 7) (ror xp 18)) (xp / 8) + xr + bits .xor .u32 (bits .xor .u32 (ror xq 17) (ror xq 19)) (xq / 1024)) % 4294967296)) HA2.out.1
        refine hK' _ _ ⟨by rw [blk_cell hX2 k, Array.getElem?_setIfInBounds_ne (by omega), ← blk_cell HA2.out.1 k]; exact cz1, by rw [blk_cell hX2 r, Array.getElem?_setIfInBounds_ne (by omega), ← blk_cell HA2.out.1 r]; exact cr1, by rw [World.size_setCell]; exact hg1⟩ ?_
        clear hK' K'
        refine wpAnyH_done (by kernel_rfl) ?_ _
        refine NoPanic.normal ?_
        go_wp2
        go_roundw
        case rel => exact ⟨k + 1, _, by omega, by rw [show k + 1 + 16 = T + 1 by have := HT.out; omega]; go_num, hX2, by
          have := HA2.out.2.1.set (by omega)
          rw [show 16 + k = T by have := HT.out; omega, HA2.out.2.2.2] at this
          rw [show 16 + (k + 1) = T + 1 by have := HT.out; omega]
          exact this, HA2.out.2.2.1.setCell (p := ⟨w.heap.size + 1 + 1, T, none⟩) (Nat.le_refl _) _⟩
        case measure => simp [intOf]; omega
    have i1 : (k : Int) < 16 := by omega
    have uk : IntKind.i64.wrap ((k : Int) + 1) = (k : Int) + 1 := wrap_id (by omega)
    have hbl := HB.out.below hBw
    have hbr := hbl.1
    have c0 := hbl.2 (4 * k) (by omega)
    have c1 := hbl.2 (4 * k + 1) (by omega)
    have c2 := hbl.2 (4 * k + 2) (by omega)
    have c3 := hbl.2 (4 * k + 3) (by omega)
    rw [← Nat.add_assoc] at c1 c2 c3
    have cg := (blk_cell hX k).trans (hA.2 k (by omega))
    have fg := blk_free hX k
    have hw := Lib.hid (wAt_first l hlt)
    unfold wordOf at hw
    generalize l.getD (4 * k) 0 = x0 at *
    generalize l.getD (4 * k + 1) 0 = x1 at *
    generalize l.getD (4 * k + 2) 0 = x2 at *
    generalize l.getD (4 * k + 3) 0 = x3 at *
    have v0 : IntKind.i64.wrap (4 * (k : Int)) = ((4 * k : Nat) : Int) := (wrap_id (by omega)).trans (by omega)
    have v1 : IntKind.i64.wrap (((4 * k : Nat) : Int) + 4) = ((4 * k + 4 : Nat) : Int) := (wrap_id (by omega)).trans (by omega)
    have i2 : 4 * k + 4 ≤ cap := by omega
    have i3 : ¬ cap = 4 * k := by omega
    have i6 : (k : Int) < 64 := by omega
    have i7 : (4 * k + 4 : Nat) - 4 * k = 4 := by omega
    have i8 : ((4 * k + 4 : Nat) : Int) ≤ (cap : Int) := by omega
    have i9 : ((4 * k : Nat) : Int) ≤ ((4 * k + 4 : Nat) : Int) := by omega
    have i10 : 4 * k ≤ 4 * k + 4 := by omega
    have HA := Lib.hid (show _ ∧ _ ∧ _ from ⟨hX, hA, hB⟩)
    clear hX hA hB hbl hBw
    go_wp2_with fail
    rw [i7]
    refine (word_any b (off + 4 * k) (cap - 4 * k) x0 x1 x2 x3 _ c0 c1 c2 c3).mono ?_
    rintro e W1 ⟨rfl, m, hW1⟩
    replace cg : W1.cell? ⟨w.heap.size + 1 + 1, k, none⟩ = some (.int .u32 (if k < k then wAt l k else 0)) := by rw [hW1]; exact cg
    replace fg : W1.frozen? ⟨w.heap.size + 1 + 1, k, none⟩ = false := by rw [hW1]; exact fg
    replace hgr : w.heap.size + 1 + 1 < W1.heap.size := by rw [hW1]; exact hgr
    have HA2 := Lib.hid (show W1.heap[w.heap.size + 1 + 1]? = some (.cells X 63 (0, 0)) ∧ Arr X l k ∧ Below (w.heap.size + 1 + 1) W W1 from by rw [hW1]; exact ⟨HA.out.1, HA.out.2.1, below_drewN HA.out.2.2 _⟩)
    clear HA hW1 c0 c1 c2 c3
    generalize (if k < k then wAt l k else 0) = zz at *
    go_wp2
    go_roundw
    case rel => exact ⟨k + 1, _, by omega, by go_num, cells_setU HA2.out.1, by
      have := HA2.out.2.1.set (by omega)
      rw [hw.out] at this
      exact this, HA2.out.2.2.setCell (p := ⟨w.heap.size + 1 + 1, k, none⟩) (Nat.le_refl _) _⟩
    case measure => simp [intOf]; omega
end Go.Proofs.YthbjjfblapfjdaaDoor
