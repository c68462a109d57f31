/- happens, and what keeps out of given blocks (layer 6). -/
import Derived.Test.YthgbkdaimnejeaaNetHap
import Derived.Test.YthgbkdaimnejeaaNetPv
import Derived.Deep.Cut
import Derived.BigRegion
namespace Go.Proofs.Ythgbkdaimnejeaa
open Go.ChangeShapes Go.WideShapes Go.ChangeAt Go.RowKit Go.Sort Go.Shelf

theorem pk_setP {P : Nat → Prop} {p : Nat} {W : World} {t : TypeId} {k0 k1 : Int} {ka : Option Addr} {kn kc : Nat} (hp : P p) (hg : W.heap[p]? = some (.cells #[.int .i64 0, .int .i64 0, .slice none 0 0] t (0, 0))) :
    ∃ W', W' = (((W.setCell ⟨p, 0, none⟩ (.int .i64 k0)).setCell ⟨p, 1, none⟩ (.int .i64 k1)).setCell ⟨p, 2, none⟩ (.slice ka kn kc)) ∧ W'.heap[p]? = some (.cells #[.int .i64 k0, .int .i64 k1, .slice ka kn kc] t (0, 0)) ∧ (∀ x L A, NetVP P W x L A → NetVP P W' x L A) ∧ (∀ k m, PkVP P W k m → PkVP P W' k m) ∧ (∀ q, q ≠ p → W'.heap[q]? = W.heap[q]?) ∧ (∀ B w, B ≤ p → Below B w W → Below B w W') ∧ W'.heap.size = W.heap.size := by
  have h1 : (W.setCell ⟨p, 0, none⟩ (.int .i64 k0)).heap[p]? = some (.cells #[.int .i64 k0, .int .i64 0, .slice none 0 0] t (0, 0)) := cells_setQ (i := 0) (v := .int .i64 k0) hg
  have h2 : ((W.setCell ⟨p, 0, none⟩ (.int .i64 k0)).setCell ⟨p, 1, none⟩ (.int .i64 k1)).heap[p]? = some (.cells #[.int .i64 k0, .int .i64 k1, .slice none 0 0] t (0, 0)) := cells_setQ (i := 1) (v := .int .i64 k1) h1
  have h3 := cells_setQ (i := 2) (v := .slice ka kn kc) h2
  refine ⟨_, rfl, h3, fun x L A h => ((h.far hp (noU8_pk hg)).far hp (noU8_pk h1)).far hp (noU8_pk h2), fun k m h => ⟨((h.1.farU (noU8_pk hg)).farU (noU8_pk h1)).farU (noU8_pk h2), h.2⟩, fun q hq => ?_, fun B w hB h => ((h.setCell (p := ⟨p, 0, none⟩) hB _).setCell (p := ⟨p, 1, none⟩) hB _).setCell (p := ⟨p, 2, none⟩) hB _, by rw [World.size_setCell, World.size_setCell, World.size_setCell]⟩
  rw [Below.heap_setCell _ _ _ _ hq, Below.heap_setCell _ _ _ _ hq, Below.heap_setCell _ _ _ _ hq]
set_option maxRecDepth 100000 in
set_option maxHeartbeats 8000000 in
theorem happens_p (P : Nat → Prop) (x : Sl × Sl) (L : List Pk) (A : List Qt) (v0 v1 v2 v3 v4 : Nat) (w : World) (h : NetVP P w x L A) (hP : ∀ b, P b → b < w.heap.size) (hN : NOk L A) (q0 : v0 ≤ 255) (q1 : v1 ≤ 255) (q2 : v2 ≤ 255) (q3 : v3 ≤ 255) :
    Calls Try.prog 27 #[vN x, .agg #[.int .u8 v0, .int .u8 v1, .int .u8 v2, .int .u8 v3, .int .u8 v4]] w fun e w' => ∃ (c : Int) (y : Sl × Sl) (k : Kt) (L' : List Pk) (A' : List Qt) (m' : Pk), e = .returned (.tuple #[vN y, vK k, .int .i64 c]) ∧ NetVP P w' y L' A' ∧ PkVP P w' k m' ∧ HR (v0 % 6) L A c L' A' m' ∧ Below w.heap.size w w' := by
  obtain ⟨⟨a0, n0, c0⟩, ⟨b0, m0, d0⟩⟩ := x
  dsimp only [vN] at *
  obtain ⟨W, hW⟩ : ∃ W, W = ((((w.alloc (.cells #[.slice a0 n0 c0, .slice b0 m0 d0] 25)).alloc (.cells #[.int .u8 v0, .int .u8 v1, .int .u8 v2, .int .u8 v3, .int .u8 v4] 49)).alloc (.cells #[.slice none 0 0, .slice none 0 0] 25)).alloc (.cells #[.int .i64 0, .int .i64 0, .slice none 0 0] 28)) := ⟨_, rfl⟩
  have hB : Below w.heap.size w W := by rw [hW]; go_grown
  have g2 : W.heap[w.heap.size]? = some (.cells #[.slice a0 n0 c0, .slice b0 m0 d0] 25 (0, 0)) := by rw [hW]; exact blk_alloc (blk_alloc (blk_alloc (blk_new _ _) _) _) _
  have g3 : W.heap[w.heap.size + 1]? = some (.cells #[.int .u8 v0, .int .u8 v1, .int .u8 v2, .int .u8 v3, .int .u8 v4] 49 (0, 0)) := by rw [hW]; have := blk_new (w.alloc (.cells #[.slice a0 n0 c0, .slice b0 m0 d0] 25)) (.cells #[.int .u8 v0, .int .u8 v1, .int .u8 v2, .int .u8 v3, .int .u8 v4] 49); rw [World.size_alloc] at this; exact blk_alloc (blk_alloc this _) _
  have g4 : W.heap[w.heap.size + 1 + 1]? = some (.cells #[.slice none 0 0, .slice none 0 0] 25 (0, 0)) := by rw [hW]; have := blk_new ((w.alloc (.cells #[.slice a0 n0 c0, .slice b0 m0 d0] 25)).alloc (.cells #[.int .u8 v0, .int .u8 v1, .int .u8 v2, .int .u8 v3, .int .u8 v4] 49)) (.cells #[.slice none 0 0, .slice none 0 0] 25); rw [World.size_alloc, World.size_alloc] at this; exact blk_alloc this _
  have g5 : W.heap[w.heap.size + 1 + 1 + 1]? = some (.cells #[.int .i64 0, .int .i64 0, .slice none 0 0] 28 (0, 0)) := by rw [hW]; have := blk_new (((w.alloc (.cells #[.slice a0 n0 c0, .slice b0 m0 d0] 25)).alloc (.cells #[.int .u8 v0, .int .u8 v1, .int .u8 v2, .int .u8 v3, .int .u8 v4] 49)).alloc (.cells #[.slice none 0 0, .slice none 0 0] 25)) (.cells #[.int .i64 0, .int .i64 0, .slice none 0 0] 28); rw [World.size_alloc, World.size_alloc, World.size_alloc] at this; exact this
  have hsW := (Array.getElem?_eq_some_iff.1 g5).1
  have HT := Lib.hid (show _ ∧ _ ∧ _ ∧ _ ∧ _ ∧ _ from ⟨hB, (h.more (p := w.heap.size + 1 + 1 + 1) (by omega)).grown hB, g2, g3, g4, g5⟩)
  clear hB g2 g3 g4 g5 h
  go_enter Try.func27, Try.ntmps27
  go_upto_region 1 with fail
  rw [← hW]
  clear hW
  have x0 := blk_cell HT.out.2.2.1 0
  have x1 := blk_cell HT.out.2.2.1 1
  simp at x0 x1
  have y0 := blk_cell HT.out.2.2.2.1 0
  have y1 := blk_cell HT.out.2.2.2.1 1
  have y2 := blk_cell HT.out.2.2.2.1 2
  have y3 := blk_cell HT.out.2.2.2.1 3
  have y4 := blk_cell HT.out.2.2.2.1 4
  simp at y0 y1 y2 y3 y4
  go_upto_if 13 with fail
  go_cut [7] from 10 (fun o wx => ∃ z : Int, o = .int .i64 z ∧ wx = W)
  case first =>
    by_cases h0 : 0 < n0
    · have z1 : decide ((n0 : Int) > 0) = true := decide_eq_true (by omega)
      have hw1 : IntKind.i64.wrap (v1 : Int) = (v1 : Int) := by rw [IntKind.wrap_i64]; omega
      have hn0 : ((n0 : Int) == 0) = false := by simp; omega
      go_wp2
      go_meet
      case rel => exact ⟨_, rfl, rfl⟩
    · have z1 : decide ((n0 : Int) > 0) = false := decide_eq_false (by omega)
      go_wp2
      go_meet
      case rel => exact ⟨_, rfl, rfl⟩
  obtain ⟨at', rfl, hwc⟩ := hcut
  subst wc
  have hw2 : IntKind.i64.wrap (v2 : Int) = (v2 : Int) := by rw [IntKind.wrap_i64]; omega
  have hw3 : IntKind.i64.wrap (v3 : Int) = (v3 : Int) := by rw [IntKind.wrap_i64]; omega
  replace y0 := cell_regrown y0
  replace y1 := cell_regrown y1
  replace y2 := cell_regrown y2
  replace y3 := cell_regrown y3
  replace y4 := cell_regrown y4
  go_upto_region 4 with fail
  refine wp_region_quiet_below (by kernel_rfl) (by kernel_rfl) ?_
  repeat (go_big_quiet_step ((fail)))
  refine wpQuiet_nil ?_
  intro Wq hb'
  have hb := of_regrown hb'
  clear hb'
  clear x0 x1 y0 y1 y2 y3 y4 hw2 hw3
  have HQ := Lib.hid (show _ ∧ _ ∧ _ ∧ _ ∧ _ ∧ _ from ⟨below_after HT.out.1 hb HT.out.1.size, HT.out.2.1.grown hb, blk_below HT.out.2.2.1 hb (Array.getElem?_eq_some_iff.1 HT.out.2.2.1).1, blk_below HT.out.2.2.2.1 hb (Array.getElem?_eq_some_iff.1 HT.out.2.2.2.1).1, blk_below HT.out.2.2.2.2.1 hb (Array.getElem?_eq_some_iff.1 HT.out.2.2.2.2.1).1, blk_below HT.out.2.2.2.2.2 hb (Array.getElem?_eq_some_iff.1 HT.out.2.2.2.2.2).1⟩)
  clear HT
  have hsq := hb.size
  clear hb
  have y0 := blk_cell HQ.out.2.2.2.1 0
  have y1 := blk_cell HQ.out.2.2.2.1 1
  have y2 := blk_cell HQ.out.2.2.2.1 2
  have y3 := blk_cell HQ.out.2.2.2.1 3
  have y4 := blk_cell HQ.out.2.2.2.1 4
  simp at y0 y1 y2 y3 y4
  go_upto_region 6 with fail
  clear y0 y1 y2 y3 y4
  generalize hpa : ((v2 : Int) % 16) = pa at *
  generalize hpb : ((v3 : Int) % 16) = pb at *
  clear hpa hpb
  rcases (show v0 % 6 = 0 ∨ v0 % 6 = 1 ∨ v0 % 6 = 2 ∨ v0 % 6 = 3 ∨ v0 % 6 = 4 ∨ v0 % 6 = 5 by omega) with h6 | h6 | h6 | h6 | h6 | h6
  · have hkv : ((v0 : Int) % 6) = 0 := by omega
    rw [hkv]
    clear hkv
    have x0 := blk_cell HQ.out.2.2.1 0
    have x1 := blk_cell HQ.out.2.2.1 1
    simp at x0 x1
    have y0 := blk_cell HQ.out.2.2.2.1 0
    have y1 := blk_cell HQ.out.2.2.2.1 1
    have y2 := blk_cell HQ.out.2.2.2.1 2
    have y3 := blk_cell HQ.out.2.2.2.1 3
    have y4 := blk_cell HQ.out.2.2.2.1 4
    simp at y0 y1 y2 y3 y4
    go_wp2_with fail
    clear x0 x1 y0 y1 y2 y3 y4
    have hb : Below Wq.heap.size Wq (Wq.alloc (.cells #[.int .u8 v4] 5)) := by go_grown
    have hPK := pkV_one Wq pa pb v4
    have HA0 := Lib.hid (show _ ∧ _ ∧ _ ∧ _ ∧ _ ∧ _ ∧ _ from ⟨below_after HQ.out.1 hb HQ.out.1.size, HQ.out.2.1.grown hb, blk_below HQ.out.2.2.1 hb (Array.getElem?_eq_some_iff.1 HQ.out.2.2.1).1, blk_below HQ.out.2.2.2.1 hb (Array.getElem?_eq_some_iff.1 HQ.out.2.2.2.1).1, blk_below HQ.out.2.2.2.2.1 hb (Array.getElem?_eq_some_iff.1 HQ.out.2.2.2.2.1).1, blk_below HQ.out.2.2.2.2.2 hb (Array.getElem?_eq_some_iff.1 HQ.out.2.2.2.2.2).1, hPK⟩)
    clear HQ
    have hsA := hb.size
    clear hb hPK
    generalize hzA : Wq.alloc (.cells #[.int .u8 v4] 5) = WA at *
    clear hzA
    obtain ⟨mm, hmm⟩ : ∃ mm, mm = pk (pa, pb, some ⟨Wq.heap.size, 0, none⟩, 1, 1) (strOfNums [(v4 : Int)]) := ⟨_, rfl⟩
    have HMM := Lib.hid hmm
    clear hmm
    refine (send_p (fun b => P b ∨ b = w.heap.size + 1 + 1 + 1) ((a0, n0, c0), (b0, m0, d0)) L A WA (pa, pb, some ⟨Wq.heap.size, 0, none⟩, 1, 1) mm (HA0.out.2.1) ⟨HMM.out ▸ HA0.out.2.2.2.2.2.2, fun ad e _ hp => by cases e; rcases hp with hp | hp <;> first | omega | (have := hP _ hp; dsimp only at this; omega) | (dsimp only at hp; omega)⟩ (fun b hb => by rcases hb with hb | hb <;> first | omega | (have := hP b hb; omega))).mono ?_
    rintro e W1 ⟨⟨⟨a1, n1, c1⟩, ⟨b1, m1, d1⟩⟩, rfl, hN, hb⟩
    have hsW1 := hb.size
    have H1 := Lib.hid (show _ ∧ _ ∧ _ ∧ _ from ⟨below_after HA0.out.1 hb HA0.out.1.size, blk_below HA0.out.2.2.2.2.1 hb (Array.getElem?_eq_some_iff.1 HA0.out.2.2.2.2.1).1, blk_below HA0.out.2.2.2.2.2.1 hb (Array.getElem?_eq_some_iff.1 HA0.out.2.2.2.2.2.1).1, hN⟩)
    clear HA0
    clear hb
    dsimp only [vN] at *
    clear hN
    have q0 := blk_cell H1.out.2.1 0
    have qf0 := blk_free H1.out.2.1 0
    have q1 := blk_cell H1.out.2.1 1
    have qf1 := blk_free H1.out.2.1 1
    simp at q0 q1
    go_upto_region 18 with fail
    clear q0 q1 qf0 qf1
    have hsW2 : W1.heap.size ≤ ((W1.setCell ⟨w.heap.size + 1 + 1, 0, none⟩ (.slice a1 n1 c1)).setCell ⟨w.heap.size + 1 + 1, 1, none⟩ (.slice b1 m1 d1)).heap.size := by rw [World.size_setCell, World.size_setCell]; exact Nat.le_refl _
    have H2 := Lib.hid (show _ ∧ _ ∧ _ ∧ _ from ⟨boxQ_below (b := w.heap.size + 1 + 1) (u0 := .slice a1 n1 c1) (u1 := .slice b1 m1 d1) (by omega) H1.out.1, boxQ_set (u0 := .slice a1 n1 c1) (u1 := .slice b1 m1 d1) H1.out.2.1, boxQ_far (b := w.heap.size + 1 + 1) (u0 := .slice a1 n1 c1) (u1 := .slice b1 m1 d1) (q := w.heap.size + 1 + 1 + 1) (by omega) H1.out.2.2.1, H1.out.2.2.2.box (a' := a1) (b' := n1) (c' := c1) (d' := b1) (e' := m1) (f' := d1) H1.out.2.1⟩)
    clear H1
    generalize hzW2 : ((W1.setCell ⟨w.heap.size + 1 + 1, 0, none⟩ (.slice a1 n1 c1)).setCell ⟨w.heap.size + 1 + 1, 1, none⟩ (.slice b1 m1 d1)) = W2 at *
    clear hzW2
    have r4 := H2.out.2.1
    have r5 := H2.out.2.2.1
    have hr : HR (v0 % 6) L A ((sendS L A mm).1) ((sendS L A mm).2.1) ((sendS L A mm).2.2) (zP) := by rw [h6]; exact hr_send mm hN
    have HF := Lib.hid (show _ ∧ _ ∧ _ ∧ _ from ⟨(H2.out.2.2.2).less fun b h => Or.inl h, (PkVP.zero P W2), H2.out.1, hr⟩)
    clear hr H2
    have e0 := blk_cell r4 0; have e1 := blk_cell r4 1; have f0 := blk_free r4 0; have f1 := blk_free r4 1
    have g0 := blk_cell r5 0; have g1 := blk_cell r5 1; have g2 := blk_cell r5 2; have k0 := blk_free r5 0; have k1 := blk_free r5 1; have k2 := blk_free r5 2
    simp at e0 e1 g0 g1 g2
    go_region
    rw [setCell_same r4 (i := 0) (by rfl), setCell_same r4 (i := 1) (by rfl), setCell_same r5 (i := 0) (by rfl), setCell_same r5 (i := 1) (by rfl), setCell_same r5 (i := 2) (by rfl)]
    clear e0 e1 f0 f1 g0 g1 g2 k0 k1 k2
    have hd : Below W2.heap.size W2 W2.drew := (Below.refl _ _).drew
    replace r4 := blk_drew r4
    replace r5 := blk_drew r5
    have e0 := blk_cell r4 0; have e1 := blk_cell r4 1
    have g0 := blk_cell r5 0; have g1 := blk_cell r5 1; have g2 := blk_cell r5 2
    simp at e0 e1 g0 g1 g2
    go_wp2
    exact bodyPost_ret (v := .tuple #[.agg #[.slice a1 n1 c1, .slice b1 m1 d1], .agg #[.int .i64 0, .int .i64 0, .slice none 0 0], .int .i64 ((sendS L A mm).1)]) (by simp [results, Try.results27, go_sem, e0, e1, g0, g1, g2]) rfl ⟨_, ((a1, n1, c1), (b1, m1, d1)), zK, (sendS L A mm).2.1, (sendS L A mm).2.2, zP, rfl, HF.out.1.grown hd, HF.out.2.1.grown hd, HF.out.2.2.2, HF.out.2.2.1.drew⟩
  · have hkv : ((v0 : Int) % 6) = 1 := by omega
    rw [hkv]
    clear hkv
    have x00 := blk_cell HQ.out.2.2.1 0
    have x01 := blk_cell HQ.out.2.2.1 1
    simp at x00 x01
    go_wp2_with fail
    clear x00 x01
    refine (deliver_p (fun b => P b ∨ b = w.heap.size + 1 + 1 + 1) ((a0, n0, c0), (b0, m0, d0)) L A Wq at' HQ.out.2.1 (fun b hb => by rcases hb with hb | hb <;> first | omega | (have := hP b hb; omega))).mono ?_
    rintro e W1 ⟨⟨k10, k11, ka1, kn1, kc1⟩, ⟨⟨a1, n1, c1⟩, ⟨b1, m1, d1⟩⟩, rfl, hK, hN, hb⟩
    have hsW1 := hb.size
    have H1 := Lib.hid (show _ ∧ _ ∧ _ ∧ _ ∧ _ from ⟨below_after HQ.out.1 hb HQ.out.1.size, blk_below HQ.out.2.2.2.2.1 hb (Array.getElem?_eq_some_iff.1 HQ.out.2.2.2.2.1).1, blk_below HQ.out.2.2.2.2.2 hb (Array.getElem?_eq_some_iff.1 HQ.out.2.2.2.2.2).1, hN, hK⟩)
    clear HQ
    clear hb
    dsimp only [vK, vN] at *
    clear hN hK
    have q0 := blk_cell H1.out.2.1 0
    have qf0 := blk_free H1.out.2.1 0
    have q1 := blk_cell H1.out.2.1 1
    have qf1 := blk_free H1.out.2.1 1
    simp at q0 q1
    have s0 := blk_cell H1.out.2.2.1 0
    have sf0 := blk_free H1.out.2.2.1 0
    have s1 := blk_cell H1.out.2.2.1 1
    have sf1 := blk_free H1.out.2.2.1 1
    have s2 := blk_cell H1.out.2.2.1 2
    have sf2 := blk_free H1.out.2.2.1 2
    simp at s0 s1 s2
    go_upto_region 18 with fail
    clear q0 q1 qf0 qf1 s0 s1 s2 sf0 sf1 sf2
    obtain ⟨Wd, hWd, d1, d2, d3, d4, d5, d6⟩ := pk_setP (P := (fun b => P b ∨ b = w.heap.size + 1 + 1 + 1)) (p := w.heap.size + 1 + 1 + 1) (k0 := k10) (k1 := k11) (ka := ka1) (kn := kn1) (kc := kc1) (Or.inr rfl) H1.out.2.2.1
    rw [← hWd]
    clear hWd
    have HD := Lib.hid (show _ ∧ _ ∧ _ ∧ _ ∧ _ from ⟨d5 _ _ (by omega) H1.out.1, (d4 _ (by omega)).trans H1.out.2.1, d1, d2 _ _ _ H1.out.2.2.2.1, d3 _ _ H1.out.2.2.2.2⟩)
    clear d1 d2 d3 d4 d5 H1
    have hsW2 : Wd.heap.size ≤ ((Wd.setCell ⟨w.heap.size + 1 + 1, 0, none⟩ (.slice a1 n1 c1)).setCell ⟨w.heap.size + 1 + 1, 1, none⟩ (.slice b1 m1 d1)).heap.size := by rw [World.size_setCell, World.size_setCell]; exact Nat.le_refl _
    have H2 := Lib.hid (show _ ∧ _ ∧ _ ∧ _ ∧ _ from ⟨boxQ_below (b := w.heap.size + 1 + 1) (u0 := .slice a1 n1 c1) (u1 := .slice b1 m1 d1) (by omega) HD.out.1, boxQ_set (u0 := .slice a1 n1 c1) (u1 := .slice b1 m1 d1) HD.out.2.1, boxQ_far (b := w.heap.size + 1 + 1) (u0 := .slice a1 n1 c1) (u1 := .slice b1 m1 d1) (q := w.heap.size + 1 + 1 + 1) (by omega) HD.out.2.2.1, HD.out.2.2.2.1.box (a' := a1) (b' := n1) (c' := c1) (d' := b1) (e' := m1) (f' := d1) HD.out.2.1, HD.out.2.2.2.2.box (a' := a1) (b' := n1) (c' := c1) (d' := b1) (e' := m1) (f' := d1) HD.out.2.1⟩)
    clear HD
    generalize hzW2 : ((Wd.setCell ⟨w.heap.size + 1 + 1, 0, none⟩ (.slice a1 n1 c1)).setCell ⟨w.heap.size + 1 + 1, 1, none⟩ (.slice b1 m1 d1)) = W2 at *
    clear hzW2
    have r4 := H2.out.2.1
    have r5 := H2.out.2.2.1
    have hr : HR (v0 % 6) L A (askS L A at') ((loseS L A at').2.1) ((loseS L A at').2.2) (if askS L A at' = 0 then delS A (L.getD at'.toNat zP) else zP) := by rw [h6]; exact hr_del at' hN
    have HF := Lib.hid (show _ ∧ _ ∧ _ ∧ _ from ⟨(H2.out.2.2.2.1).less fun b h => Or.inl h, (show PkVP P _ _ _ from ⟨H2.out.2.2.2.2.1, H2.out.2.2.2.2.2.mono fun b h => Or.inl h⟩), H2.out.1, hr⟩)
    clear hr H2
    have e0 := blk_cell r4 0; have e1 := blk_cell r4 1; have f0 := blk_free r4 0; have f1 := blk_free r4 1
    have g0 := blk_cell r5 0; have g1 := blk_cell r5 1; have g2 := blk_cell r5 2; have k0 := blk_free r5 0; have k1 := blk_free r5 1; have k2 := blk_free r5 2
    simp at e0 e1 g0 g1 g2
    go_region
    rw [setCell_same r4 (i := 0) (by rfl), setCell_same r4 (i := 1) (by rfl), setCell_same r5 (i := 0) (by rfl), setCell_same r5 (i := 1) (by rfl), setCell_same r5 (i := 2) (by rfl)]
    clear e0 e1 f0 f1 g0 g1 g2 k0 k1 k2
    have hd : Below W2.heap.size W2 W2.drew := (Below.refl _ _).drew
    replace r4 := blk_drew r4
    replace r5 := blk_drew r5
    have e0 := blk_cell r4 0; have e1 := blk_cell r4 1
    have g0 := blk_cell r5 0; have g1 := blk_cell r5 1; have g2 := blk_cell r5 2
    simp at e0 e1 g0 g1 g2
    go_wp2
    exact bodyPost_ret (v := .tuple #[.agg #[.slice a1 n1 c1, .slice b1 m1 d1], .agg #[.int .i64 k10, .int .i64 k11, .slice ka1 kn1 kc1], .int .i64 (askS L A at')]) (by simp [results, Try.results27, go_sem, e0, e1, g0, g1, g2]) rfl ⟨_, ((a1, n1, c1), (b1, m1, d1)), (k10, k11, ka1, kn1, kc1), (loseS L A at').2.1, (loseS L A at').2.2, if askS L A at' = 0 then delS A (L.getD at'.toNat zP) else zP, rfl, HF.out.1.grown hd, HF.out.2.1.grown hd, HF.out.2.2.2, HF.out.2.2.1.drew⟩
  · have hkv : ((v0 : Int) % 6) = 2 := by omega
    rw [hkv]
    clear hkv
    have x00 := blk_cell HQ.out.2.2.1 0
    have x01 := blk_cell HQ.out.2.2.1 1
    simp at x00 x01
    go_wp2_with fail
    clear x00 x01
    refine (lose_p (fun b => P b ∨ b = w.heap.size + 1 + 1 + 1) ((a0, n0, c0), (b0, m0, d0)) L A Wq at' HQ.out.2.1 (fun b hb => by rcases hb with hb | hb <;> first | omega | (have := hP b hb; omega))).mono ?_
    rintro e W1 ⟨⟨⟨a1, n1, c1⟩, ⟨b1, m1, d1⟩⟩, rfl, hN, hb⟩
    have hsW1 := hb.size
    have H1 := Lib.hid (show _ ∧ _ ∧ _ ∧ _ from ⟨below_after HQ.out.1 hb HQ.out.1.size, blk_below HQ.out.2.2.2.2.1 hb (Array.getElem?_eq_some_iff.1 HQ.out.2.2.2.2.1).1, blk_below HQ.out.2.2.2.2.2 hb (Array.getElem?_eq_some_iff.1 HQ.out.2.2.2.2.2).1, hN⟩)
    clear HQ
    clear hb
    dsimp only [vN] at *
    clear hN
    have q0 := blk_cell H1.out.2.1 0
    have qf0 := blk_free H1.out.2.1 0
    have q1 := blk_cell H1.out.2.1 1
    have qf1 := blk_free H1.out.2.1 1
    simp at q0 q1
    go_upto_region 18 with fail
    clear q0 q1 qf0 qf1
    have hsW2 : W1.heap.size ≤ ((W1.setCell ⟨w.heap.size + 1 + 1, 0, none⟩ (.slice a1 n1 c1)).setCell ⟨w.heap.size + 1 + 1, 1, none⟩ (.slice b1 m1 d1)).heap.size := by rw [World.size_setCell, World.size_setCell]; exact Nat.le_refl _
    have H2 := Lib.hid (show _ ∧ _ ∧ _ ∧ _ from ⟨boxQ_below (b := w.heap.size + 1 + 1) (u0 := .slice a1 n1 c1) (u1 := .slice b1 m1 d1) (by omega) H1.out.1, boxQ_set (u0 := .slice a1 n1 c1) (u1 := .slice b1 m1 d1) H1.out.2.1, boxQ_far (b := w.heap.size + 1 + 1) (u0 := .slice a1 n1 c1) (u1 := .slice b1 m1 d1) (q := w.heap.size + 1 + 1 + 1) (by omega) H1.out.2.2.1, H1.out.2.2.2.box (a' := a1) (b' := n1) (c' := c1) (d' := b1) (e' := m1) (f' := d1) H1.out.2.1⟩)
    clear H1
    generalize hzW2 : ((W1.setCell ⟨w.heap.size + 1 + 1, 0, none⟩ (.slice a1 n1 c1)).setCell ⟨w.heap.size + 1 + 1, 1, none⟩ (.slice b1 m1 d1)) = W2 at *
    clear hzW2
    have r4 := H2.out.2.1
    have r5 := H2.out.2.2.1
    have hr : HR (v0 % 6) L A ((loseS L A at').1) ((loseS L A at').2.1) ((loseS L A at').2.2) (zP) := by rw [h6]; exact hr_lose at' hN
    have HF := Lib.hid (show _ ∧ _ ∧ _ ∧ _ from ⟨(H2.out.2.2.2).less fun b h => Or.inl h, (PkVP.zero P W2), H2.out.1, hr⟩)
    clear hr H2
    have e0 := blk_cell r4 0; have e1 := blk_cell r4 1; have f0 := blk_free r4 0; have f1 := blk_free r4 1
    have g0 := blk_cell r5 0; have g1 := blk_cell r5 1; have g2 := blk_cell r5 2; have k0 := blk_free r5 0; have k1 := blk_free r5 1; have k2 := blk_free r5 2
    simp at e0 e1 g0 g1 g2
    go_region
    rw [setCell_same r4 (i := 0) (by rfl), setCell_same r4 (i := 1) (by rfl), setCell_same r5 (i := 0) (by rfl), setCell_same r5 (i := 1) (by rfl), setCell_same r5 (i := 2) (by rfl)]
    clear e0 e1 f0 f1 g0 g1 g2 k0 k1 k2
    have hd : Below W2.heap.size W2 W2.drew := (Below.refl _ _).drew
    replace r4 := blk_drew r4
    replace r5 := blk_drew r5
    have e0 := blk_cell r4 0; have e1 := blk_cell r4 1
    have g0 := blk_cell r5 0; have g1 := blk_cell r5 1; have g2 := blk_cell r5 2
    simp at e0 e1 g0 g1 g2
    go_wp2
    exact bodyPost_ret (v := .tuple #[.agg #[.slice a1 n1 c1, .slice b1 m1 d1], .agg #[.int .i64 0, .int .i64 0, .slice none 0 0], .int .i64 ((loseS L A at').1)]) (by simp [results, Try.results27, go_sem, e0, e1, g0, g1, g2]) rfl ⟨_, ((a1, n1, c1), (b1, m1, d1)), zK, (loseS L A at').2.1, (loseS L A at').2.2, zP, rfl, HF.out.1.grown hd, HF.out.2.1.grown hd, HF.out.2.2.2, HF.out.2.2.1.drew⟩
  · have hkv : ((v0 : Int) % 6) = 3 := by omega
    rw [hkv]
    clear hkv
    have x00 := blk_cell HQ.out.2.2.1 0
    have x01 := blk_cell HQ.out.2.2.1 1
    simp at x00 x01
    go_wp2_with fail
    clear x00 x01
    refine (repeat_p (fun b => P b ∨ b = w.heap.size + 1 + 1 + 1) ((a0, n0, c0), (b0, m0, d0)) L A Wq at' HQ.out.2.1 (fun b hb => by rcases hb with hb | hb <;> first | omega | (have := hP b hb; omega))).mono ?_
    rintro e W1 ⟨⟨⟨a1, n1, c1⟩, ⟨b1, m1, d1⟩⟩, rfl, hN, hb⟩
    have hsW1 := hb.size
    have H1 := Lib.hid (show _ ∧ _ ∧ _ ∧ _ from ⟨below_after HQ.out.1 hb HQ.out.1.size, blk_below HQ.out.2.2.2.2.1 hb (Array.getElem?_eq_some_iff.1 HQ.out.2.2.2.2.1).1, blk_below HQ.out.2.2.2.2.2 hb (Array.getElem?_eq_some_iff.1 HQ.out.2.2.2.2.2).1, hN⟩)
    clear HQ
    clear hb
    dsimp only [vN] at *
    clear hN
    have q0 := blk_cell H1.out.2.1 0
    have qf0 := blk_free H1.out.2.1 0
    have q1 := blk_cell H1.out.2.1 1
    have qf1 := blk_free H1.out.2.1 1
    simp at q0 q1
    go_upto_region 18 with fail
    clear q0 q1 qf0 qf1
    have hsW2 : W1.heap.size ≤ ((W1.setCell ⟨w.heap.size + 1 + 1, 0, none⟩ (.slice a1 n1 c1)).setCell ⟨w.heap.size + 1 + 1, 1, none⟩ (.slice b1 m1 d1)).heap.size := by rw [World.size_setCell, World.size_setCell]; exact Nat.le_refl _
    have H2 := Lib.hid (show _ ∧ _ ∧ _ ∧ _ from ⟨boxQ_below (b := w.heap.size + 1 + 1) (u0 := .slice a1 n1 c1) (u1 := .slice b1 m1 d1) (by omega) H1.out.1, boxQ_set (u0 := .slice a1 n1 c1) (u1 := .slice b1 m1 d1) H1.out.2.1, boxQ_far (b := w.heap.size + 1 + 1) (u0 := .slice a1 n1 c1) (u1 := .slice b1 m1 d1) (q := w.heap.size + 1 + 1 + 1) (by omega) H1.out.2.2.1, H1.out.2.2.2.box (a' := a1) (b' := n1) (c' := c1) (d' := b1) (e' := m1) (f' := d1) H1.out.2.1⟩)
    clear H1
    generalize hzW2 : ((W1.setCell ⟨w.heap.size + 1 + 1, 0, none⟩ (.slice a1 n1 c1)).setCell ⟨w.heap.size + 1 + 1, 1, none⟩ (.slice b1 m1 d1)) = W2 at *
    clear hzW2
    have r4 := H2.out.2.1
    have r5 := H2.out.2.2.1
    have hr : HR (v0 % 6) L A ((repS L A at').1) ((repS L A at').2.1) ((repS L A at').2.2) (zP) := by rw [h6]; exact hr_rep at' hN
    have HF := Lib.hid (show _ ∧ _ ∧ _ ∧ _ from ⟨(H2.out.2.2.2).less fun b h => Or.inl h, (PkVP.zero P W2), H2.out.1, hr⟩)
    clear hr H2
    have e0 := blk_cell r4 0; have e1 := blk_cell r4 1; have f0 := blk_free r4 0; have f1 := blk_free r4 1
    have g0 := blk_cell r5 0; have g1 := blk_cell r5 1; have g2 := blk_cell r5 2; have k0 := blk_free r5 0; have k1 := blk_free r5 1; have k2 := blk_free r5 2
    simp at e0 e1 g0 g1 g2
    go_region
    rw [setCell_same r4 (i := 0) (by rfl), setCell_same r4 (i := 1) (by rfl), setCell_same r5 (i := 0) (by rfl), setCell_same r5 (i := 1) (by rfl), setCell_same r5 (i := 2) (by rfl)]
    clear e0 e1 f0 f1 g0 g1 g2 k0 k1 k2
    have hd : Below W2.heap.size W2 W2.drew := (Below.refl _ _).drew
    replace r4 := blk_drew r4
    replace r5 := blk_drew r5
    have e0 := blk_cell r4 0; have e1 := blk_cell r4 1
    have g0 := blk_cell r5 0; have g1 := blk_cell r5 1; have g2 := blk_cell r5 2
    simp at e0 e1 g0 g1 g2
    go_wp2
    exact bodyPost_ret (v := .tuple #[.agg #[.slice a1 n1 c1, .slice b1 m1 d1], .agg #[.int .i64 0, .int .i64 0, .slice none 0 0], .int .i64 ((repS L A at').1)]) (by simp [results, Try.results27, go_sem, e0, e1, g0, g1, g2]) rfl ⟨_, ((a1, n1, c1), (b1, m1, d1)), zK, (repS L A at').2.1, (repS L A at').2.2, zP, rfl, HF.out.1.grown hd, HF.out.2.1.grown hd, HF.out.2.2.2, HF.out.2.2.1.drew⟩
  · have hkv : ((v0 : Int) % 6) = 4 := by omega
    rw [hkv]
    clear hkv
    have x00 := blk_cell HQ.out.2.2.1 0
    have x01 := blk_cell HQ.out.2.2.1 1
    simp at x00 x01
    go_wp2_with fail
    clear x00 x01
    refine (cut_p (fun b => P b ∨ b = w.heap.size + 1 + 1 + 1) ((a0, n0, c0), (b0, m0, d0)) L A Wq pa pb true HQ.out.2.1 (fun b hb => by rcases hb with hb | hb <;> first | omega | (have := hP b hb; omega))).mono ?_
    rintro e W1 ⟨⟨⟨a1, n1, c1⟩, ⟨b1, m1, d1⟩⟩, rfl, hN, hb⟩
    have hsW1 := hb.size
    have H1 := Lib.hid (show _ ∧ _ ∧ _ ∧ _ from ⟨below_after HQ.out.1 hb HQ.out.1.size, blk_below HQ.out.2.2.2.2.1 hb (Array.getElem?_eq_some_iff.1 HQ.out.2.2.2.2.1).1, blk_below HQ.out.2.2.2.2.2 hb (Array.getElem?_eq_some_iff.1 HQ.out.2.2.2.2.2).1, hN⟩)
    clear HQ
    clear hb
    dsimp only [vN] at *
    clear hN
    have q0 := blk_cell H1.out.2.1 0
    have qf0 := blk_free H1.out.2.1 0
    have q1 := blk_cell H1.out.2.1 1
    have qf1 := blk_free H1.out.2.1 1
    simp at q0 q1
    go_upto_region 18 with fail
    clear q0 q1 qf0 qf1
    have hsW2 : W1.heap.size ≤ ((W1.setCell ⟨w.heap.size + 1 + 1, 0, none⟩ (.slice a1 n1 c1)).setCell ⟨w.heap.size + 1 + 1, 1, none⟩ (.slice b1 m1 d1)).heap.size := by rw [World.size_setCell, World.size_setCell]; exact Nat.le_refl _
    have H2 := Lib.hid (show _ ∧ _ ∧ _ ∧ _ from ⟨boxQ_below (b := w.heap.size + 1 + 1) (u0 := .slice a1 n1 c1) (u1 := .slice b1 m1 d1) (by omega) H1.out.1, boxQ_set (u0 := .slice a1 n1 c1) (u1 := .slice b1 m1 d1) H1.out.2.1, boxQ_far (b := w.heap.size + 1 + 1) (u0 := .slice a1 n1 c1) (u1 := .slice b1 m1 d1) (q := w.heap.size + 1 + 1 + 1) (by omega) H1.out.2.2.1, H1.out.2.2.2.box (a' := a1) (b' := n1) (c' := c1) (d' := b1) (e' := m1) (f' := d1) H1.out.2.1⟩)
    clear H1
    generalize hzW2 : ((W1.setCell ⟨w.heap.size + 1 + 1, 0, none⟩ (.slice a1 n1 c1)).setCell ⟨w.heap.size + 1 + 1, 1, none⟩ (.slice b1 m1 d1)) = W2 at *
    clear hzW2
    have r4 := H2.out.2.1
    have r5 := H2.out.2.2.1
    have hr : HR (v0 % 6) L A ((cutS L A pa pb true).1) ((cutS L A pa pb true).2.1) ((cutS L A pa pb true).2.2) (zP) := by rw [h6]; exact hr_cut pa pb true hN
    have HF := Lib.hid (show _ ∧ _ ∧ _ ∧ _ from ⟨(H2.out.2.2.2).less fun b h => Or.inl h, (PkVP.zero P W2), H2.out.1, hr⟩)
    clear hr H2
    have e0 := blk_cell r4 0; have e1 := blk_cell r4 1; have f0 := blk_free r4 0; have f1 := blk_free r4 1
    have g0 := blk_cell r5 0; have g1 := blk_cell r5 1; have g2 := blk_cell r5 2; have k0 := blk_free r5 0; have k1 := blk_free r5 1; have k2 := blk_free r5 2
    simp at e0 e1 g0 g1 g2
    go_region
    rw [setCell_same r4 (i := 0) (by rfl), setCell_same r4 (i := 1) (by rfl), setCell_same r5 (i := 0) (by rfl), setCell_same r5 (i := 1) (by rfl), setCell_same r5 (i := 2) (by rfl)]
    clear e0 e1 f0 f1 g0 g1 g2 k0 k1 k2
    have hd : Below W2.heap.size W2 W2.drew := (Below.refl _ _).drew
    replace r4 := blk_drew r4
    replace r5 := blk_drew r5
    have e0 := blk_cell r4 0; have e1 := blk_cell r4 1
    have g0 := blk_cell r5 0; have g1 := blk_cell r5 1; have g2 := blk_cell r5 2
    simp at e0 e1 g0 g1 g2
    go_wp2
    exact bodyPost_ret (v := .tuple #[.agg #[.slice a1 n1 c1, .slice b1 m1 d1], .agg #[.int .i64 0, .int .i64 0, .slice none 0 0], .int .i64 ((cutS L A pa pb true).1)]) (by simp [results, Try.results27, go_sem, e0, e1, g0, g1, g2]) rfl ⟨_, ((a1, n1, c1), (b1, m1, d1)), zK, (cutS L A pa pb true).2.1, (cutS L A pa pb true).2.2, zP, rfl, HF.out.1.grown hd, HF.out.2.1.grown hd, HF.out.2.2.2, HF.out.2.2.1.drew⟩
  · have hkv : ((v0 : Int) % 6) = 5 := by omega
    rw [hkv]
    clear hkv
    have x00 := blk_cell HQ.out.2.2.1 0
    have x01 := blk_cell HQ.out.2.2.1 1
    simp at x00 x01
    go_wp2_with fail
    clear x00 x01
    refine (cut_p (fun b => P b ∨ b = w.heap.size + 1 + 1 + 1) ((a0, n0, c0), (b0, m0, d0)) L A Wq pa pb false HQ.out.2.1 (fun b hb => by rcases hb with hb | hb <;> first | omega | (have := hP b hb; omega))).mono ?_
    rintro e W1 ⟨⟨⟨a1, n1, c1⟩, ⟨b1, m1, d1⟩⟩, rfl, hN, hb⟩
    have hsW1 := hb.size
    have H1 := Lib.hid (show _ ∧ _ ∧ _ ∧ _ from ⟨below_after HQ.out.1 hb HQ.out.1.size, blk_below HQ.out.2.2.2.2.1 hb (Array.getElem?_eq_some_iff.1 HQ.out.2.2.2.2.1).1, blk_below HQ.out.2.2.2.2.2 hb (Array.getElem?_eq_some_iff.1 HQ.out.2.2.2.2.2).1, hN⟩)
    clear HQ
    clear hb
    dsimp only [vN] at *
    clear hN
    have q0 := blk_cell H1.out.2.1 0
    have qf0 := blk_free H1.out.2.1 0
    have q1 := blk_cell H1.out.2.1 1
    have qf1 := blk_free H1.out.2.1 1
    simp at q0 q1
    go_upto_region 18 with fail
    clear q0 q1 qf0 qf1
    have hsW2 : W1.heap.size ≤ ((W1.setCell ⟨w.heap.size + 1 + 1, 0, none⟩ (.slice a1 n1 c1)).setCell ⟨w.heap.size + 1 + 1, 1, none⟩ (.slice b1 m1 d1)).heap.size := by rw [World.size_setCell, World.size_setCell]; exact Nat.le_refl _
    have H2 := Lib.hid (show _ ∧ _ ∧ _ ∧ _ from ⟨boxQ_below (b := w.heap.size + 1 + 1) (u0 := .slice a1 n1 c1) (u1 := .slice b1 m1 d1) (by omega) H1.out.1, boxQ_set (u0 := .slice a1 n1 c1) (u1 := .slice b1 m1 d1) H1.out.2.1, boxQ_far (b := w.heap.size + 1 + 1) (u0 := .slice a1 n1 c1) (u1 := .slice b1 m1 d1) (q := w.heap.size + 1 + 1 + 1) (by omega) H1.out.2.2.1, H1.out.2.2.2.box (a' := a1) (b' := n1) (c' := c1) (d' := b1) (e' := m1) (f' := d1) H1.out.2.1⟩)
    clear H1
    generalize hzW2 : ((W1.setCell ⟨w.heap.size + 1 + 1, 0, none⟩ (.slice a1 n1 c1)).setCell ⟨w.heap.size + 1 + 1, 1, none⟩ (.slice b1 m1 d1)) = W2 at *
    clear hzW2
    have r4 := H2.out.2.1
    have r5 := H2.out.2.2.1
    have hr : HR (v0 % 6) L A ((cutS L A pa pb false).1) ((cutS L A pa pb false).2.1) ((cutS L A pa pb false).2.2) (zP) := by rw [h6]; exact hr_cuf pa pb hN
    have HF := Lib.hid (show _ ∧ _ ∧ _ ∧ _ from ⟨(H2.out.2.2.2).less fun b h => Or.inl h, (PkVP.zero P W2), H2.out.1, hr⟩)
    clear hr H2
    have e0 := blk_cell r4 0; have e1 := blk_cell r4 1; have f0 := blk_free r4 0; have f1 := blk_free r4 1
    have g0 := blk_cell r5 0; have g1 := blk_cell r5 1; have g2 := blk_cell r5 2; have k0 := blk_free r5 0; have k1 := blk_free r5 1; have k2 := blk_free r5 2
    simp at e0 e1 g0 g1 g2
    go_region
    rw [setCell_same r4 (i := 0) (by rfl), setCell_same r4 (i := 1) (by rfl), setCell_same r5 (i := 0) (by rfl), setCell_same r5 (i := 1) (by rfl), setCell_same r5 (i := 2) (by rfl)]
    clear e0 e1 f0 f1 g0 g1 g2 k0 k1 k2
    have hd : Below W2.heap.size W2 W2.drew := (Below.refl _ _).drew
    replace r4 := blk_drew r4
    replace r5 := blk_drew r5
    have e0 := blk_cell r4 0; have e1 := blk_cell r4 1
    have g0 := blk_cell r5 0; have g1 := blk_cell r5 1; have g2 := blk_cell r5 2
    simp at e0 e1 g0 g1 g2
    go_wp2
    exact bodyPost_ret (v := .tuple #[.agg #[.slice a1 n1 c1, .slice b1 m1 d1], .agg #[.int .i64 0, .int .i64 0, .slice none 0 0], .int .i64 ((cutS L A pa pb false).1)]) (by simp [results, Try.results27, go_sem, e0, e1, g0, g1, g2]) rfl ⟨_, ((a1, n1, c1), (b1, m1, d1)), zK, (cutS L A pa pb false).2.1, (cutS L A pa pb false).2.2, zP, rfl, HF.out.1.grown hd, HF.out.2.1.grown hd, HF.out.2.2.2, HF.out.2.2.1.drew⟩
end Go.Proofs.Ythgbkdaimnejeaa
