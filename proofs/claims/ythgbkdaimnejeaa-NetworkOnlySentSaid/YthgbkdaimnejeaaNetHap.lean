/- happens, by what the links hold (layer 6). -/
import Derived.Test.YthgbkdaimnejeaaNetOnA
import Derived.Test.YthgbkdaimnejeaaNetLawE
import Derived.Deep.Cut
import Derived.BigRegion
namespace Go.Proofs.Ythgbkdaimnejeaa
open Go.ChangeShapes Go.WideShapes Go.ChangeAt Go.RowKit Go.Sort Go.Shelf

/-- What a move does to links: it is refused with nothing, or it keeps them valid. -/
def HR (kd : Nat) (L : List Pk) (A : List Qt) (c : Int) (L' : List Pk) (A' : List Qt) (m' : Pk) : Prop :=
  (c ≠ 0 ∧ L' = [] ∧ A' = []) ∨ (c = 0 ∧ NOk L' A' ∧ (kd = 0 → ∃ p, L' = L ++ [p]) ∧ (kd ≠ 0 → ∀ p ∈ L', p ∈ L) ∧ (kd ≠ 4 → A' ≠ [] → A ≠ []) ∧ (kd = 1 → (m' = zP ∧ A ≠ []) ∨ m' ∈ L))
theorem pk_set {p : Nat} {W : World} {t : TypeId} {k0 k1 : Int} {ka : Option Addr} {kn kc : Nat} (hg : W.heap[p]? = some (.cells #[.int .i64 0, .int .i64 0, .slice none 0 0] t (0, 0))) :
    ∃ W', W' = (((W.setCell ⟨p, 0, none⟩ (.int .i64 k0)).setCell ⟨p, 1, none⟩ (.int .i64 k1)).setCell ⟨p, 2, none⟩ (.slice ka kn kc)) ∧ W'.heap[p]? = some (.cells #[.int .i64 k0, .int .i64 k1, .slice ka kn kc] t (0, 0)) ∧ (∀ x L A, NetVb p W x L A → NetVb p W' x L A) ∧ (∀ k m, PkV W k m → PkV W' k m) ∧ (∀ q, q ≠ p → W'.heap[q]? = W.heap[q]?) ∧ (∀ B w, B ≤ p → Below B w W → Below B w W') ∧ W'.heap.size = W.heap.size := by
  have h1 : (W.setCell ⟨p, 0, none⟩ (.int .i64 k0)).heap[p]? = some (.cells #[.int .i64 k0, .int .i64 0, .slice none 0 0] t (0, 0)) := cells_setQ (i := 0) (v := .int .i64 k0) hg
  have h2 : ((W.setCell ⟨p, 0, none⟩ (.int .i64 k0)).setCell ⟨p, 1, none⟩ (.int .i64 k1)).heap[p]? = some (.cells #[.int .i64 k0, .int .i64 k1, .slice none 0 0] t (0, 0)) := cells_setQ (i := 1) (v := .int .i64 k1) h1
  have h3 := cells_setQ (i := 2) (v := .slice ka kn kc) h2
  refine ⟨_, rfl, h3, fun x L A h => ((h.far (noU8_pk hg)).far (noU8_pk h1)).far (noU8_pk h2), fun k m h => ((h.farU (noU8_pk hg)).farU (noU8_pk h1)).farU (noU8_pk h2), fun q hq => ?_, fun B w hB h => ((h.setCell (p := ⟨p, 0, none⟩) hB _).setCell (p := ⟨p, 1, none⟩) hB _).setCell (p := ⟨p, 2, none⟩) hB _, by rw [World.size_setCell, World.size_setCell, World.size_setCell]⟩
  rw [Below.heap_setCell _ _ _ _ hq, Below.heap_setCell _ _ _ _ hq, Below.heap_setCell _ _ _ _ hq]
theorem pkV_one (w : World) (a b : Int) (v : Nat) : PkV (w.alloc (.cells #[.int .u8 v] 5)) (a, b, some ⟨w.heap.size, 0, none⟩, 1, 1) (pk (a, b, some ⟨w.heap.size, 0, none⟩, 1, 1) (strOfNums [(v : Int)])) :=
  ⟨strOfNums [(v : Int)], ⟨w.heap.size, 0, [(v : Int)], ⟨rfl, fun _ => rfl, fun _ => by simp, fun i hi => by
    obtain rfl : i = 0 := by dsimp only at hi; omega
    simp⟩, rfl⟩, rfl⟩
theorem nok_of {L L' : List Pk} {A : List Qt} (h : NOk L A) (hl : L'.length ≤ L.length) (hm : ∀ p ∈ L', p ∈ L) : NOk L' A := ⟨Nat.le_trans hl h.1, fun m g => h.2.1 m (hm m g), h.2.2⟩
theorem hr_send {L : List Pk} {A : List Qt} (m : Pk) (h : NOk L A) : HR 0 L A (sendS L A m).1 (sendS L A m).2.1 (sendS L A m).2.2 zP := by
  unfold sendS
  by_cases hm : okS m
  · rw [if_pos ⟨h, hm⟩]
    by_cases hl : L.length = 4096
    · rw [if_pos hl]; exact .inl ⟨by decide, rfl, rfl⟩
    · rw [if_neg hl]
      have := h.1
      refine .inr ⟨rfl, ⟨by rw [List.length_append]; simp; omega, fun p hp => ?_, h.2.2⟩, fun _ => ⟨m, rfl⟩, fun h => absurd rfl h, fun _ h => h, fun h => by cases h⟩
      rcases List.mem_append.1 hp with g | g
      · exact h.2.1 p g
      · rw [List.mem_singleton.1 g]; exact hm
  · rw [if_neg fun g => hm g.2]; exact .inl ⟨by decide, rfl, rfl⟩
theorem ask_cases {L : List Pk} {A : List Qt} (i : Int) (h : NOk L A) : (askS L A i = 0 ∧ i.toNat < L.length) ∨ askS L A i = 1 := by
  unfold askS
  rw [if_pos h]
  by_cases g : 0 ≤ i ∧ i < (L.length : Int)
  · rw [if_pos g]; exact .inl ⟨rfl, by omega⟩
  · rw [if_neg g]; exact .inr rfl
theorem getD_mem {L : List Pk} {k : Nat} (h : k < L.length) : L.getD k zP ∈ L := by
  rw [List.getD_eq_getElem?_getD, List.getElem?_eq_getElem h]; exact List.getElem_mem _
theorem hr_lose {L : List Pk} {A : List Qt} (i : Int) (h : NOk L A) : HR 2 L A (loseS L A i).1 (loseS L A i).2.1 (loseS L A i).2.2 zP := by
  unfold loseS
  rcases ask_cases i h with ⟨g, _⟩ | g
  · rw [if_pos g]
    exact .inr ⟨rfl, nok_of h (List.length_eraseIdx_le _ _) fun p hp => List.mem_of_mem_eraseIdx hp, fun h => (by cases h), fun _ p hp => List.mem_of_mem_eraseIdx hp, fun _ h => h, fun h => by cases h⟩
  · rw [if_neg (by omega), g]; exact .inl ⟨by decide, rfl, rfl⟩
theorem hr_del {L : List Pk} {A : List Qt} (i : Int) (h : NOk L A) : HR 1 L A (askS L A i) (loseS L A i).2.1 (loseS L A i).2.2 (if askS L A i = 0 then delS A (L.getD i.toNat zP) else zP) := by
  unfold loseS
  rcases ask_cases i h with ⟨g, hi⟩ | g
  · rw [if_pos g, if_pos g, g]
    refine .inr ⟨rfl, nok_of h (List.length_eraseIdx_le _ _) fun p hp => List.mem_of_mem_eraseIdx hp, fun h => (by cases h), fun _ p hp => List.mem_of_mem_eraseIdx hp, fun _ h => h, fun _ => ?_⟩
    unfold delS
    split
    · next hq => exact .inl ⟨rfl, fun e => by rw [e] at hq; cases hq⟩
    · exact .inr (getD_mem hi)
  · rw [if_neg (by omega), if_neg (by omega), g]; exact .inl ⟨by decide, rfl, rfl⟩
theorem hr_rep {L : List Pk} {A : List Qt} (i : Int) (h : NOk L A) : HR 3 L A (repS L A i).1 (repS L A i).2.1 (repS L A i).2.2 zP := by
  unfold repS
  rcases ask_cases i h with ⟨g, hi⟩ | g
  · rw [if_pos g]
    by_cases hl : L.length = 4096
    · rw [if_pos hl]; exact .inl ⟨by decide, rfl, rfl⟩
    · rw [if_neg hl]
      have hle := h.1
      have hall : ∀ p ∈ L ++ [L.getD i.toNat zP], p ∈ L := fun p hp => by
        rcases List.mem_append.1 hp with g | g
        · exact g
        · rw [List.mem_singleton.1 g]; exact getD_mem hi
      exact .inr ⟨rfl, ⟨by rw [List.length_append]; simp; omega, fun p hp => h.2.1 p (hall p hp), h.2.2⟩, fun h => (by cases h), fun _ => hall, fun _ h => h, fun h => by cases h⟩
  · rw [if_neg (by omega), g]; exact .inl ⟨by decide, rfl, rfl⟩
theorem hr_cut {L : List Pk} {A : List Qt} (a b : Int) (on : Bool) (h : NOk L A) : HR 4 L A (cutS L A a b on).1 (cutS L A a b on).2.1 (cutS L A a b on).2.2 zP := by
  unfold cutS
  rw [if_pos h]
  by_cases hp : prt a b
  · rw [if_pos hp]
    exact .inr ⟨rfl, ⟨h.1, h.2.1, cut_ok (okAn_sorted h.2.2) (fun q hq => okAn_in h.2.2 hq) (prQ_in hp) on⟩, fun h => (by cases h), fun _ p hp => hp, fun h => absurd rfl h, fun h => by cases h⟩
  · rw [if_neg hp]; exact .inl ⟨by decide, rfl, rfl⟩
theorem hr_cuf {L : List Pk} {A : List Qt} (a b : Int) (h : NOk L A) : HR 5 L A (cutS L A a b false).1 (cutS L A a b false).2.1 (cutS L A a b false).2.2 zP := by
  unfold cutS
  rw [if_pos h]
  by_cases hp : prt a b
  · rw [if_pos hp]
    refine .inr ⟨rfl, ⟨h.1, h.2.1, cut_ok (okAn_sorted h.2.2) (fun q hq => okAn_in h.2.2 hq) (prQ_in hp) false⟩, fun h => (by cases h), fun _ p hp => hp, fun _ h e => h ?_, fun h => by cases h⟩
    rw [e]; exact List.eq_nil_iff_forall_not_mem.2 fun q hq => by
      rcases (cutL_mem [] (prQ a b) false q).1 hq with ⟨h, _⟩ | ⟨h, _⟩ <;> cases h
  · rw [if_neg hp]; exact .inl ⟨by decide, rfl, rfl⟩
set_option maxRecDepth 100000 in
set_option maxHeartbeats 8000000 in
theorem happens_s (x : Sl × Sl) (L : List Pk) (A : List Qt) (v0 v1 v2 v3 v4 : Nat) (w : World) (h : NetV w x L A) (hN : NOk L A) (q0 : v0 ≤ 255) (q1 : v1 ≤ 255) (q2 : v2 ≤ 255) (q3 : v3 ≤ 255) :
    Calls Try.prog 27 #[vN x, .agg #[.int .u8 v0, .int .u8 v1, .int .u8 v2, .int .u8 v3, .int .u8 v4]] w fun e w' => ∃ (c : Int) (y : Sl × Sl) (k : Kt) (L' : List Pk) (A' : List Qt) (m' : Pk), e = .returned (.tuple #[vN y, vK k, .int .i64 c]) ∧ NetV w' y L' A' ∧ PkV w' k m' ∧ HR (v0 % 6) L A c L' A' m' ∧ Below w.heap.size w w' := by
  obtain ⟨⟨a0, n0, c0⟩, ⟨b0, m0, d0⟩⟩ := x
  dsimp only [vN] at *
  obtain ⟨W, hW⟩ : ∃ W, W = ((((w.alloc (.cells #[.slice a0 n0 c0, .slice b0 m0 d0] 25)).alloc (.cells #[.int .u8 v0, .int .u8 v1, .int .u8 v2, .int .u8 v3, .int .u8 v4] 49)).alloc (.cells #[.slice none 0 0, .slice none 0 0] 25)).alloc (.cells #[.int .i64 0, .int .i64 0, .slice none 0 0] 28)) := ⟨_, rfl⟩
  have hB : Below w.heap.size w W := by rw [hW]; go_grown
  have g2 : W.heap[w.heap.size]? = some (.cells #[.slice a0 n0 c0, .slice b0 m0 d0] 25 (0, 0)) := by rw [hW]; exact blk_alloc (blk_alloc (blk_alloc (blk_new _ _) _) _) _
  have g3 : W.heap[w.heap.size + 1]? = some (.cells #[.int .u8 v0, .int .u8 v1, .int .u8 v2, .int .u8 v3, .int .u8 v4] 49 (0, 0)) := by rw [hW]; have := blk_new (w.alloc (.cells #[.slice a0 n0 c0, .slice b0 m0 d0] 25)) (.cells #[.int .u8 v0, .int .u8 v1, .int .u8 v2, .int .u8 v3, .int .u8 v4] 49); rw [World.size_alloc] at this; exact blk_alloc (blk_alloc this _) _
  have g4 : W.heap[w.heap.size + 1 + 1]? = some (.cells #[.slice none 0 0, .slice none 0 0] 25 (0, 0)) := by rw [hW]; have := blk_new ((w.alloc (.cells #[.slice a0 n0 c0, .slice b0 m0 d0] 25)).alloc (.cells #[.int .u8 v0, .int .u8 v1, .int .u8 v2, .int .u8 v3, .int .u8 v4] 49)) (.cells #[.slice none 0 0, .slice none 0 0] 25); rw [World.size_alloc, World.size_alloc] at this; exact blk_alloc this _
  have g5 : W.heap[w.heap.size + 1 + 1 + 1]? = some (.cells #[.int .i64 0, .int .i64 0, .slice none 0 0] 28 (0, 0)) := by rw [hW]; have := blk_new (((w.alloc (.cells #[.slice a0 n0 c0, .slice b0 m0 d0] 25)).alloc (.cells #[.int .u8 v0, .int .u8 v1, .int .u8 v2, .int .u8 v3, .int .u8 v4] 49)).alloc (.cells #[.slice none 0 0, .slice none 0 0] 25)) (.cells #[.int .i64 0, .int .i64 0, .slice none 0 0] 28); rw [World.size_alloc, World.size_alloc, World.size_alloc] at this; exact this
  have hsW := (Array.getElem?_eq_some_iff.1 g5).1
  have HT := Lib.hid (show _ ∧ _ ∧ _ ∧ _ ∧ _ ∧ _ from ⟨hB, (h.vb (p := w.heap.size + 1 + 1 + 1) (by omega)).grown hB, g2, g3, g4, g5⟩)
  clear hB g2 g3 g4 g5 h
  go_enter Try.func27, Try.ntmps27
  go_upto_region 1 with fail
  rw [← hW]
  clear hW
  have x0 := blk_cell HT.out.2.2.1 0
  have x1 := blk_cell HT.out.2.2.1 1
  simp at x0 x1
  have y0 := blk_cell HT.out.2.2.2.1 0
  have y1 := blk_cell HT.out.2.2.2.1 1
  have y2 := blk_cell HT.out.2.2.2.1 2
  have y3 := blk_cell HT.out.2.2.2.1 3
  have y4 := blk_cell HT.out.2.2.2.1 4
  simp at y0 y1 y2 y3 y4
  go_upto_if 13 with fail
  go_cut [7] from 10 (fun o wx => ∃ z : Int, o = .int .i64 z ∧ wx = W)
  case first =>
    by_cases h0 : 0 < n0
    · have z1 : decide ((n0 : Int) > 0) = true := decide_eq_true (by omega)
      have hw1 : IntKind.i64.wrap (v1 : Int) = (v1 : Int) := by rw [IntKind.wrap_i64]; omega
      have hn0 : ((n0 : Int) == 0) = false := by simp; omega
      go_wp2
      go_meet
      case rel => exact ⟨_, rfl, rfl⟩
    · have z1 : decide ((n0 : Int) > 0) = false := decide_eq_false (by omega)
      go_wp2
      go_meet
      case rel => exact ⟨_, rfl, rfl⟩
  obtain ⟨at', rfl, hwc⟩ := hcut
  subst wc
  have hw2 : IntKind.i64.wrap (v2 : Int) = (v2 : Int) := by rw [IntKind.wrap_i64]; omega
  have hw3 : IntKind.i64.wrap (v3 : Int) = (v3 : Int) := by rw [IntKind.wrap_i64]; omega
  replace y0 := cell_regrown y0
  replace y1 := cell_regrown y1
  replace y2 := cell_regrown y2
  replace y3 := cell_regrown y3
  replace y4 := cell_regrown y4
  go_upto_region 4 with fail
  refine wp_region_quiet_below (by kernel_rfl) (by kernel_rfl) ?_
  repeat (go_big_quiet_step ((fail)))
  refine wpQuiet_nil ?_
  intro Wq hb'
  have hb := of_regrown hb'
  clear hb'
  clear x0 x1 y0 y1 y2 y3 y4 hw2 hw3
  have HQ := Lib.hid (show _ ∧ _ ∧ _ ∧ _ ∧ _ ∧ _ from ⟨below_after HT.out.1 hb HT.out.1.size, HT.out.2.1.grown hb, blk_below HT.out.2.2.1 hb (Array.getElem?_eq_some_iff.1 HT.out.2.2.1).1, blk_below HT.out.2.2.2.1 hb (Array.getElem?_eq_some_iff.1 HT.out.2.2.2.1).1, blk_below HT.out.2.2.2.2.1 hb (Array.getElem?_eq_some_iff.1 HT.out.2.2.2.2.1).1, blk_below HT.out.2.2.2.2.2 hb (Array.getElem?_eq_some_iff.1 HT.out.2.2.2.2.2).1⟩)
  clear HT
  have hsq := hb.size
  clear hb
  have y0 := blk_cell HQ.out.2.2.2.1 0
  have y1 := blk_cell HQ.out.2.2.2.1 1
  have y2 := blk_cell HQ.out.2.2.2.1 2
  have y3 := blk_cell HQ.out.2.2.2.1 3
  have y4 := blk_cell HQ.out.2.2.2.1 4
  simp at y0 y1 y2 y3 y4
  go_upto_region 6 with fail
  clear y0 y1 y2 y3 y4
  generalize hpa : ((v2 : Int) % 16) = pa at *
  generalize hpb : ((v3 : Int) % 16) = pb at *
  clear hpa hpb
  rcases (show v0 % 6 = 0 ∨ v0 % 6 = 1 ∨ v0 % 6 = 2 ∨ v0 % 6 = 3 ∨ v0 % 6 = 4 ∨ v0 % 6 = 5 by omega) with h6 | h6 | h6 | h6 | h6 | h6
  · have hkv : ((v0 : Int) % 6) = 0 := by omega
    rw [hkv]
    clear hkv
    have x0 := blk_cell HQ.out.2.2.1 0
    have x1 := blk_cell HQ.out.2.2.1 1
    simp at x0 x1
    have y0 := blk_cell HQ.out.2.2.2.1 0
    have y1 := blk_cell HQ.out.2.2.2.1 1
    have y2 := blk_cell HQ.out.2.2.2.1 2
    have y3 := blk_cell HQ.out.2.2.2.1 3
    have y4 := blk_cell HQ.out.2.2.2.1 4
    simp at y0 y1 y2 y3 y4
    go_wp2_with fail
    clear x0 x1 y0 y1 y2 y3 y4
    have hb : Below Wq.heap.size Wq (Wq.alloc (.cells #[.int .u8 v4] 5)) := by go_grown
    have hP := pkV_one Wq pa pb v4
    have HA0 := Lib.hid (show _ ∧ _ ∧ _ ∧ _ ∧ _ ∧ _ ∧ _ from ⟨below_after HQ.out.1 hb HQ.out.1.size, HQ.out.2.1.grown hb, blk_below HQ.out.2.2.1 hb (Array.getElem?_eq_some_iff.1 HQ.out.2.2.1).1, blk_below HQ.out.2.2.2.1 hb (Array.getElem?_eq_some_iff.1 HQ.out.2.2.2.1).1, blk_below HQ.out.2.2.2.2.1 hb (Array.getElem?_eq_some_iff.1 HQ.out.2.2.2.2.1).1, blk_below HQ.out.2.2.2.2.2 hb (Array.getElem?_eq_some_iff.1 HQ.out.2.2.2.2.2).1, hP⟩)
    clear HQ
    clear hb hP
    generalize hzA : Wq.alloc (.cells #[.int .u8 v4] 5) = WA at *
    clear hzA
    obtain ⟨mm, hmm⟩ : ∃ mm, mm = pk (pa, pb, some ⟨Wq.heap.size, 0, none⟩, 1, 1) (strOfNums [(v4 : Int)]) := ⟨_, rfl⟩
    have HMM := Lib.hid hmm
    clear hmm
    refine (send_s ((a0, n0, c0), (b0, m0, d0)) L A (pa, pb, some ⟨Wq.heap.size, 0, none⟩, 1, 1) mm WA (HA0.out.2.1).v (HMM.out ▸ HA0.out.2.2.2.2.2.2)).mono ?_
    rintro e W1 ⟨⟨⟨a1, n1, c1⟩, ⟨b1, m1, d1⟩⟩, rfl, hN, hb⟩
    have hsW1 := hb.size
    have H1 := Lib.hid (show _ ∧ _ ∧ _ ∧ _ from ⟨below_after HA0.out.1 hb HA0.out.1.size, blk_below HA0.out.2.2.2.2.1 hb (Array.getElem?_eq_some_iff.1 HA0.out.2.2.2.2.1).1, blk_below HA0.out.2.2.2.2.2.1 hb (Array.getElem?_eq_some_iff.1 HA0.out.2.2.2.2.2.1).1, hN⟩)
    clear HA0
    clear hb
    dsimp only [vN] at *
    clear hN
    have q0 := blk_cell H1.out.2.1 0
    have qf0 := blk_free H1.out.2.1 0
    have q1 := blk_cell H1.out.2.1 1
    have qf1 := blk_free H1.out.2.1 1
    simp at q0 q1
    go_upto_region 18 with fail
    clear q0 q1 qf0 qf1
    have hsW2 : W1.heap.size ≤ ((W1.setCell ⟨w.heap.size + 1 + 1, 0, none⟩ (.slice a1 n1 c1)).setCell ⟨w.heap.size + 1 + 1, 1, none⟩ (.slice b1 m1 d1)).heap.size := by rw [World.size_setCell, World.size_setCell]; exact Nat.le_refl _
    have H2 := Lib.hid (show _ ∧ _ ∧ _ ∧ _ from ⟨boxQ_below (b := w.heap.size + 1 + 1) (u0 := .slice a1 n1 c1) (u1 := .slice b1 m1 d1) (by omega) H1.out.1, boxQ_set (u0 := .slice a1 n1 c1) (u1 := .slice b1 m1 d1) H1.out.2.1, boxQ_far (b := w.heap.size + 1 + 1) (u0 := .slice a1 n1 c1) (u1 := .slice b1 m1 d1) (q := w.heap.size + 1 + 1 + 1) (by omega) H1.out.2.2.1, H1.out.2.2.2.box (a' := a1) (b' := n1) (c' := c1) (d' := b1) (e' := m1) (f' := d1) H1.out.2.1⟩)
    clear H1
    generalize hzW2 : ((W1.setCell ⟨w.heap.size + 1 + 1, 0, none⟩ (.slice a1 n1 c1)).setCell ⟨w.heap.size + 1 + 1, 1, none⟩ (.slice b1 m1 d1)) = W2 at *
    clear hzW2
    have r4 := H2.out.2.1
    have r5 := H2.out.2.2.1
    have hr : HR (v0 % 6) L A ((sendS L A mm).1) ((sendS L A mm).2.1) ((sendS L A mm).2.2) (zP) := by rw [h6]; exact hr_send mm hN
    have HF := Lib.hid (show _ ∧ _ ∧ _ ∧ _ from ⟨H2.out.2.2.2, (PkV.zero W2), H2.out.1, hr⟩)
    clear hr H2
    have e0 := blk_cell r4 0; have e1 := blk_cell r4 1; have f0 := blk_free r4 0; have f1 := blk_free r4 1
    have g0 := blk_cell r5 0; have g1 := blk_cell r5 1; have g2 := blk_cell r5 2; have k0 := blk_free r5 0; have k1 := blk_free r5 1; have k2 := blk_free r5 2
    simp at e0 e1 g0 g1 g2
    go_region
    rw [setCell_same r4 (i := 0) (by rfl), setCell_same r4 (i := 1) (by rfl), setCell_same r5 (i := 0) (by rfl), setCell_same r5 (i := 1) (by rfl), setCell_same r5 (i := 2) (by rfl)]
    clear e0 e1 f0 f1 g0 g1 g2 k0 k1 k2
    have hd : Below W2.heap.size W2 W2.drew := (Below.refl _ _).drew
    replace r4 := blk_drew r4
    replace r5 := blk_drew r5
    have e0 := blk_cell r4 0; have e1 := blk_cell r4 1
    have g0 := blk_cell r5 0; have g1 := blk_cell r5 1; have g2 := blk_cell r5 2
    simp at e0 e1 g0 g1 g2
    go_wp2
    exact bodyPost_ret (v := .tuple #[.agg #[.slice a1 n1 c1, .slice b1 m1 d1], .agg #[.int .i64 0, .int .i64 0, .slice none 0 0], .int .i64 ((sendS L A mm).1)]) (by simp [results, Try.results27, go_sem, e0, e1, g0, g1, g2]) rfl ⟨_, ((a1, n1, c1), (b1, m1, d1)), zK, (sendS L A mm).2.1, (sendS L A mm).2.2, zP, rfl, HF.out.1.grown hd, HF.out.2.1.grown hd, HF.out.2.2.2, HF.out.2.2.1.drew⟩
  · have hkv : ((v0 : Int) % 6) = 1 := by omega
    rw [hkv]
    clear hkv
    have x00 := blk_cell HQ.out.2.2.1 0
    have x01 := blk_cell HQ.out.2.2.1 1
    simp at x00 x01
    go_wp2_with fail
    clear x00 x01
    refine (deliver_b (w.heap.size + 1 + 1 + 1) ((a0, n0, c0), (b0, m0, d0)) L A at' Wq HQ.out.2.1 (by omega)).mono ?_
    rintro e W1 ⟨⟨k10, k11, ka1, kn1, kc1⟩, ⟨⟨a1, n1, c1⟩, ⟨b1, m1, d1⟩⟩, rfl, hK, hN, hb⟩
    have hsW1 := hb.size
    have H1 := Lib.hid (show _ ∧ _ ∧ _ ∧ _ ∧ _ from ⟨below_after HQ.out.1 hb HQ.out.1.size, blk_below HQ.out.2.2.2.2.1 hb (Array.getElem?_eq_some_iff.1 HQ.out.2.2.2.2.1).1, blk_below HQ.out.2.2.2.2.2 hb (Array.getElem?_eq_some_iff.1 HQ.out.2.2.2.2.2).1, hN, hK⟩)
    clear HQ
    clear hb
    dsimp only [vK, vN] at *
    clear hN hK
    have q0 := blk_cell H1.out.2.1 0
    have qf0 := blk_free H1.out.2.1 0
    have q1 := blk_cell H1.out.2.1 1
    have qf1 := blk_free H1.out.2.1 1
    simp at q0 q1
    have s0 := blk_cell H1.out.2.2.1 0
    have sf0 := blk_free H1.out.2.2.1 0
    have s1 := blk_cell H1.out.2.2.1 1
    have sf1 := blk_free H1.out.2.2.1 1
    have s2 := blk_cell H1.out.2.2.1 2
    have sf2 := blk_free H1.out.2.2.1 2
    simp at s0 s1 s2
    go_upto_region 18 with fail
    clear q0 q1 qf0 qf1 s0 s1 s2 sf0 sf1 sf2
    obtain ⟨Wd, hWd, d1, d2, d3, d4, d5, d6⟩ := pk_set (k0 := k10) (k1 := k11) (ka := ka1) (kn := kn1) (kc := kc1) H1.out.2.2.1
    rw [← hWd]
    clear hWd
    have HD := Lib.hid (show _ ∧ _ ∧ _ ∧ _ ∧ _ from ⟨d5 _ _ (by omega) H1.out.1, (d4 _ (by omega)).trans H1.out.2.1, d1, (d2 _ _ _ H1.out.2.2.2.1).v, d3 _ _ H1.out.2.2.2.2⟩)
    clear d1 d2 d3 d4 d5 H1
    have hsW2 : Wd.heap.size ≤ ((Wd.setCell ⟨w.heap.size + 1 + 1, 0, none⟩ (.slice a1 n1 c1)).setCell ⟨w.heap.size + 1 + 1, 1, none⟩ (.slice b1 m1 d1)).heap.size := by rw [World.size_setCell, World.size_setCell]; exact Nat.le_refl _
    have H2 := Lib.hid (show _ ∧ _ ∧ _ ∧ _ ∧ _ from ⟨boxQ_below (b := w.heap.size + 1 + 1) (u0 := .slice a1 n1 c1) (u1 := .slice b1 m1 d1) (by omega) HD.out.1, boxQ_set (u0 := .slice a1 n1 c1) (u1 := .slice b1 m1 d1) HD.out.2.1, boxQ_far (b := w.heap.size + 1 + 1) (u0 := .slice a1 n1 c1) (u1 := .slice b1 m1 d1) (q := w.heap.size + 1 + 1 + 1) (by omega) HD.out.2.2.1, HD.out.2.2.2.1.box (a' := a1) (b' := n1) (c' := c1) (d' := b1) (e' := m1) (f' := d1) HD.out.2.1, HD.out.2.2.2.2.box (a' := a1) (b' := n1) (c' := c1) (d' := b1) (e' := m1) (f' := d1) HD.out.2.1⟩)
    clear HD
    generalize hzW2 : ((Wd.setCell ⟨w.heap.size + 1 + 1, 0, none⟩ (.slice a1 n1 c1)).setCell ⟨w.heap.size + 1 + 1, 1, none⟩ (.slice b1 m1 d1)) = W2 at *
    clear hzW2
    have r4 := H2.out.2.1
    have r5 := H2.out.2.2.1
    have hr : HR (v0 % 6) L A (askS L A at') ((loseS L A at').2.1) ((loseS L A at').2.2) (if askS L A at' = 0 then delS A (L.getD at'.toNat zP) else zP) := by rw [h6]; exact hr_del at' hN
    have HF := Lib.hid (show _ ∧ _ ∧ _ ∧ _ from ⟨H2.out.2.2.2.1, H2.out.2.2.2.2, H2.out.1, hr⟩)
    clear hr H2
    have e0 := blk_cell r4 0; have e1 := blk_cell r4 1; have f0 := blk_free r4 0; have f1 := blk_free r4 1
    have g0 := blk_cell r5 0; have g1 := blk_cell r5 1; have g2 := blk_cell r5 2; have k0 := blk_free r5 0; have k1 := blk_free r5 1; have k2 := blk_free r5 2
    simp at e0 e1 g0 g1 g2
    go_region
    rw [setCell_same r4 (i := 0) (by rfl), setCell_same r4 (i := 1) (by rfl), setCell_same r5 (i := 0) (by rfl), setCell_same r5 (i := 1) (by rfl), setCell_same r5 (i := 2) (by rfl)]
    clear e0 e1 f0 f1 g0 g1 g2 k0 k1 k2
    have hd : Below W2.heap.size W2 W2.drew := (Below.refl _ _).drew
    replace r4 := blk_drew r4
    replace r5 := blk_drew r5
    have e0 := blk_cell r4 0; have e1 := blk_cell r4 1
    have g0 := blk_cell r5 0; have g1 := blk_cell r5 1; have g2 := blk_cell r5 2
    simp at e0 e1 g0 g1 g2
    go_wp2
    exact bodyPost_ret (v := .tuple #[.agg #[.slice a1 n1 c1, .slice b1 m1 d1], .agg #[.int .i64 k10, .int .i64 k11, .slice ka1 kn1 kc1], .int .i64 (askS L A at')]) (by simp [results, Try.results27, go_sem, e0, e1, g0, g1, g2]) rfl ⟨_, ((a1, n1, c1), (b1, m1, d1)), (k10, k11, ka1, kn1, kc1), (loseS L A at').2.1, (loseS L A at').2.2, if askS L A at' = 0 then delS A (L.getD at'.toNat zP) else zP, rfl, HF.out.1.grown hd, HF.out.2.1.grown hd, HF.out.2.2.2, HF.out.2.2.1.drew⟩
  · have hkv : ((v0 : Int) % 6) = 2 := by omega
    rw [hkv]
    clear hkv
    have x00 := blk_cell HQ.out.2.2.1 0
    have x01 := blk_cell HQ.out.2.2.1 1
    simp at x00 x01
    go_wp2_with fail
    clear x00 x01
    refine (lose_s ((a0, n0, c0), (b0, m0, d0)) L A at' Wq (HQ.out.2.1).v).mono ?_
    rintro e W1 ⟨⟨⟨a1, n1, c1⟩, ⟨b1, m1, d1⟩⟩, rfl, hN, hb⟩
    have hsW1 := hb.size
    have H1 := Lib.hid (show _ ∧ _ ∧ _ ∧ _ from ⟨below_after HQ.out.1 hb HQ.out.1.size, blk_below HQ.out.2.2.2.2.1 hb (Array.getElem?_eq_some_iff.1 HQ.out.2.2.2.2.1).1, blk_below HQ.out.2.2.2.2.2 hb (Array.getElem?_eq_some_iff.1 HQ.out.2.2.2.2.2).1, hN⟩)
    clear HQ
    clear hb
    dsimp only [vN] at *
    clear hN
    have q0 := blk_cell H1.out.2.1 0
    have qf0 := blk_free H1.out.2.1 0
    have q1 := blk_cell H1.out.2.1 1
    have qf1 := blk_free H1.out.2.1 1
    simp at q0 q1
    go_upto_region 18 with fail
    clear q0 q1 qf0 qf1
    have hsW2 : W1.heap.size ≤ ((W1.setCell ⟨w.heap.size + 1 + 1, 0, none⟩ (.slice a1 n1 c1)).setCell ⟨w.heap.size + 1 + 1, 1, none⟩ (.slice b1 m1 d1)).heap.size := by rw [World.size_setCell, World.size_setCell]; exact Nat.le_refl _
    have H2 := Lib.hid (show _ ∧ _ ∧ _ ∧ _ from ⟨boxQ_below (b := w.heap.size + 1 + 1) (u0 := .slice a1 n1 c1) (u1 := .slice b1 m1 d1) (by omega) H1.out.1, boxQ_set (u0 := .slice a1 n1 c1) (u1 := .slice b1 m1 d1) H1.out.2.1, boxQ_far (b := w.heap.size + 1 + 1) (u0 := .slice a1 n1 c1) (u1 := .slice b1 m1 d1) (q := w.heap.size + 1 + 1 + 1) (by omega) H1.out.2.2.1, H1.out.2.2.2.box (a' := a1) (b' := n1) (c' := c1) (d' := b1) (e' := m1) (f' := d1) H1.out.2.1⟩)
    clear H1
    generalize hzW2 : ((W1.setCell ⟨w.heap.size + 1 + 1, 0, none⟩ (.slice a1 n1 c1)).setCell ⟨w.heap.size + 1 + 1, 1, none⟩ (.slice b1 m1 d1)) = W2 at *
    clear hzW2
    have r4 := H2.out.2.1
    have r5 := H2.out.2.2.1
    have hr : HR (v0 % 6) L A ((loseS L A at').1) ((loseS L A at').2.1) ((loseS L A at').2.2) (zP) := by rw [h6]; exact hr_lose at' hN
    have HF := Lib.hid (show _ ∧ _ ∧ _ ∧ _ from ⟨H2.out.2.2.2, (PkV.zero W2), H2.out.1, hr⟩)
    clear hr H2
    have e0 := blk_cell r4 0; have e1 := blk_cell r4 1; have f0 := blk_free r4 0; have f1 := blk_free r4 1
    have g0 := blk_cell r5 0; have g1 := blk_cell r5 1; have g2 := blk_cell r5 2; have k0 := blk_free r5 0; have k1 := blk_free r5 1; have k2 := blk_free r5 2
    simp at e0 e1 g0 g1 g2
    go_region
    rw [setCell_same r4 (i := 0) (by rfl), setCell_same r4 (i := 1) (by rfl), setCell_same r5 (i := 0) (by rfl), setCell_same r5 (i := 1) (by rfl), setCell_same r5 (i := 2) (by rfl)]
    clear e0 e1 f0 f1 g0 g1 g2 k0 k1 k2
    have hd : Below W2.heap.size W2 W2.drew := (Below.refl _ _).drew
    replace r4 := blk_drew r4
    replace r5 := blk_drew r5
    have e0 := blk_cell r4 0; have e1 := blk_cell r4 1
    have g0 := blk_cell r5 0; have g1 := blk_cell r5 1; have g2 := blk_cell r5 2
    simp at e0 e1 g0 g1 g2
    go_wp2
    exact bodyPost_ret (v := .tuple #[.agg #[.slice a1 n1 c1, .slice b1 m1 d1], .agg #[.int .i64 0, .int .i64 0, .slice none 0 0], .int .i64 ((loseS L A at').1)]) (by simp [results, Try.results27, go_sem, e0, e1, g0, g1, g2]) rfl ⟨_, ((a1, n1, c1), (b1, m1, d1)), zK, (loseS L A at').2.1, (loseS L A at').2.2, zP, rfl, HF.out.1.grown hd, HF.out.2.1.grown hd, HF.out.2.2.2, HF.out.2.2.1.drew⟩
  · have hkv : ((v0 : Int) % 6) = 3 := by omega
    rw [hkv]
    clear hkv
    have x00 := blk_cell HQ.out.2.2.1 0
    have x01 := blk_cell HQ.out.2.2.1 1
    simp at x00 x01
    go_wp2_with fail
    clear x00 x01
    refine (repeat_s ((a0, n0, c0), (b0, m0, d0)) L A at' Wq (HQ.out.2.1).v).mono ?_
    rintro e W1 ⟨⟨⟨a1, n1, c1⟩, ⟨b1, m1, d1⟩⟩, rfl, hN, hb⟩
    have hsW1 := hb.size
    have H1 := Lib.hid (show _ ∧ _ ∧ _ ∧ _ from ⟨below_after HQ.out.1 hb HQ.out.1.size, blk_below HQ.out.2.2.2.2.1 hb (Array.getElem?_eq_some_iff.1 HQ.out.2.2.2.2.1).1, blk_below HQ.out.2.2.2.2.2 hb (Array.getElem?_eq_some_iff.1 HQ.out.2.2.2.2.2).1, hN⟩)
    clear HQ
    clear hb
    dsimp only [vN] at *
    clear hN
    have q0 := blk_cell H1.out.2.1 0
    have qf0 := blk_free H1.out.2.1 0
    have q1 := blk_cell H1.out.2.1 1
    have qf1 := blk_free H1.out.2.1 1
    simp at q0 q1
    go_upto_region 18 with fail
    clear q0 q1 qf0 qf1
    have hsW2 : W1.heap.size ≤ ((W1.setCell ⟨w.heap.size + 1 + 1, 0, none⟩ (.slice a1 n1 c1)).setCell ⟨w.heap.size + 1 + 1, 1, none⟩ (.slice b1 m1 d1)).heap.size := by rw [World.size_setCell, World.size_setCell]; exact Nat.le_refl _
    have H2 := Lib.hid (show _ ∧ _ ∧ _ ∧ _ from ⟨boxQ_below (b := w.heap.size + 1 + 1) (u0 := .slice a1 n1 c1) (u1 := .slice b1 m1 d1) (by omega) H1.out.1, boxQ_set (u0 := .slice a1 n1 c1) (u1 := .slice b1 m1 d1) H1.out.2.1, boxQ_far (b := w.heap.size + 1 + 1) (u0 := .slice a1 n1 c1) (u1 := .slice b1 m1 d1) (q := w.heap.size + 1 + 1 + 1) (by omega) H1.out.2.2.1, H1.out.2.2.2.box (a' := a1) (b' := n1) (c' := c1) (d' := b1) (e' := m1) (f' := d1) H1.out.2.1⟩)
    clear H1
    generalize hzW2 : ((W1.setCell ⟨w.heap.size + 1 + 1, 0, none⟩ (.slice a1 n1 c1)).setCell ⟨w.heap.size + 1 + 1, 1, none⟩ (.slice b1 m1 d1)) = W2 at *
    clear hzW2
    have r4 := H2.out.2.1
    have r5 := H2.out.2.2.1
    have hr : HR (v0 % 6) L A ((repS L A at').1) ((repS L A at').2.1) ((repS L A at').2.2) (zP) := by rw [h6]; exact hr_rep at' hN
    have HF := Lib.hid (show _ ∧ _ ∧ _ ∧ _ from ⟨H2.out.2.2.2, (PkV.zero W2), H2.out.1, hr⟩)
    clear hr H2
    have e0 := blk_cell r4 0; have e1 := blk_cell r4 1; have f0 := blk_free r4 0; have f1 := blk_free r4 1
    have g0 := blk_cell r5 0; have g1 := blk_cell r5 1; have g2 := blk_cell r5 2; have k0 := blk_free r5 0; have k1 := blk_free r5 1; have k2 := blk_free r5 2
    simp at e0 e1 g0 g1 g2
    go_region
    rw [setCell_same r4 (i := 0) (by rfl), setCell_same r4 (i := 1) (by rfl), setCell_same r5 (i := 0) (by rfl), setCell_same r5 (i := 1) (by rfl), setCell_same r5 (i := 2) (by rfl)]
    clear e0 e1 f0 f1 g0 g1 g2 k0 k1 k2
    have hd : Below W2.heap.size W2 W2.drew := (Below.refl _ _).drew
    replace r4 := blk_drew r4
    replace r5 := blk_drew r5
    have e0 := blk_cell r4 0; have e1 := blk_cell r4 1
    have g0 := blk_cell r5 0; have g1 := blk_cell r5 1; have g2 := blk_cell r5 2
    simp at e0 e1 g0 g1 g2
    go_wp2
    exact bodyPost_ret (v := .tuple #[.agg #[.slice a1 n1 c1, .slice b1 m1 d1], .agg #[.int .i64 0, .int .i64 0, .slice none 0 0], .int .i64 ((repS L A at').1)]) (by simp [results, Try.results27, go_sem, e0, e1, g0, g1, g2]) rfl ⟨_, ((a1, n1, c1), (b1, m1, d1)), zK, (repS L A at').2.1, (repS L A at').2.2, zP, rfl, HF.out.1.grown hd, HF.out.2.1.grown hd, HF.out.2.2.2, HF.out.2.2.1.drew⟩
  · have hkv : ((v0 : Int) % 6) = 4 := by omega
    rw [hkv]
    clear hkv
    have x00 := blk_cell HQ.out.2.2.1 0
    have x01 := blk_cell HQ.out.2.2.1 1
    simp at x00 x01
    go_wp2_with fail
    clear x00 x01
    refine (cut_s ((a0, n0, c0), (b0, m0, d0)) L A pa pb true Wq (HQ.out.2.1).v).mono ?_
    rintro e W1 ⟨⟨⟨a1, n1, c1⟩, ⟨b1, m1, d1⟩⟩, rfl, hN, hb⟩
    have hsW1 := hb.size
    have H1 := Lib.hid (show _ ∧ _ ∧ _ ∧ _ from ⟨below_after HQ.out.1 hb HQ.out.1.size, blk_below HQ.out.2.2.2.2.1 hb (Array.getElem?_eq_some_iff.1 HQ.out.2.2.2.2.1).1, blk_below HQ.out.2.2.2.2.2 hb (Array.getElem?_eq_some_iff.1 HQ.out.2.2.2.2.2).1, hN⟩)
    clear HQ
    clear hb
    dsimp only [vN] at *
    clear hN
    have q0 := blk_cell H1.out.2.1 0
    have qf0 := blk_free H1.out.2.1 0
    have q1 := blk_cell H1.out.2.1 1
    have qf1 := blk_free H1.out.2.1 1
    simp at q0 q1
    go_upto_region 18 with fail
    clear q0 q1 qf0 qf1
    have hsW2 : W1.heap.size ≤ ((W1.setCell ⟨w.heap.size + 1 + 1, 0, none⟩ (.slice a1 n1 c1)).setCell ⟨w.heap.size + 1 + 1, 1, none⟩ (.slice b1 m1 d1)).heap.size := by rw [World.size_setCell, World.size_setCell]; exact Nat.le_refl _
    have H2 := Lib.hid (show _ ∧ _ ∧ _ ∧ _ from ⟨boxQ_below (b := w.heap.size + 1 + 1) (u0 := .slice a1 n1 c1) (u1 := .slice b1 m1 d1) (by omega) H1.out.1, boxQ_set (u0 := .slice a1 n1 c1) (u1 := .slice b1 m1 d1) H1.out.2.1, boxQ_far (b := w.heap.size + 1 + 1) (u0 := .slice a1 n1 c1) (u1 := .slice b1 m1 d1) (q := w.heap.size + 1 + 1 + 1) (by omega) H1.out.2.2.1, H1.out.2.2.2.box (a' := a1) (b' := n1) (c' := c1) (d' := b1) (e' := m1) (f' := d1) H1.out.2.1⟩)
    clear H1
    generalize hzW2 : ((W1.setCell ⟨w.heap.size + 1 + 1, 0, none⟩ (.slice a1 n1 c1)).setCell ⟨w.heap.size + 1 + 1, 1, none⟩ (.slice b1 m1 d1)) = W2 at *
    clear hzW2
    have r4 := H2.out.2.1
    have r5 := H2.out.2.2.1
    have hr : HR (v0 % 6) L A ((cutS L A pa pb true).1) ((cutS L A pa pb true).2.1) ((cutS L A pa pb true).2.2) (zP) := by rw [h6]; exact hr_cut pa pb true hN
    have HF := Lib.hid (show _ ∧ _ ∧ _ ∧ _ from ⟨H2.out.2.2.2, (PkV.zero W2), H2.out.1, hr⟩)
    clear hr H2
    have e0 := blk_cell r4 0; have e1 := blk_cell r4 1; have f0 := blk_free r4 0; have f1 := blk_free r4 1
    have g0 := blk_cell r5 0; have g1 := blk_cell r5 1; have g2 := blk_cell r5 2; have k0 := blk_free r5 0; have k1 := blk_free r5 1; have k2 := blk_free r5 2
    simp at e0 e1 g0 g1 g2
    go_region
    rw [setCell_same r4 (i := 0) (by rfl), setCell_same r4 (i := 1) (by rfl), setCell_same r5 (i := 0) (by rfl), setCell_same r5 (i := 1) (by rfl), setCell_same r5 (i := 2) (by rfl)]
    clear e0 e1 f0 f1 g0 g1 g2 k0 k1 k2
    have hd : Below W2.heap.size W2 W2.drew := (Below.refl _ _).drew
    replace r4 := blk_drew r4
    replace r5 := blk_drew r5
    have e0 := blk_cell r4 0; have e1 := blk_cell r4 1
    have g0 := blk_cell r5 0; have g1 := blk_cell r5 1; have g2 := blk_cell r5 2
    simp at e0 e1 g0 g1 g2
    go_wp2
    exact bodyPost_ret (v := .tuple #[.agg #[.slice a1 n1 c1, .slice b1 m1 d1], .agg #[.int .i64 0, .int .i64 0, .slice none 0 0], .int .i64 ((cutS L A pa pb true).1)]) (by simp [results, Try.results27, go_sem, e0, e1, g0, g1, g2]) rfl ⟨_, ((a1, n1, c1), (b1, m1, d1)), zK, (cutS L A pa pb true).2.1, (cutS L A pa pb true).2.2, zP, rfl, HF.out.1.grown hd, HF.out.2.1.grown hd, HF.out.2.2.2, HF.out.2.2.1.drew⟩
  · have hkv : ((v0 : Int) % 6) = 5 := by omega
    rw [hkv]
    clear hkv
    have x00 := blk_cell HQ.out.2.2.1 0
    have x01 := blk_cell HQ.out.2.2.1 1
    simp at x00 x01
    go_wp2_with fail
    clear x00 x01
    refine (cut_s ((a0, n0, c0), (b0, m0, d0)) L A pa pb false Wq (HQ.out.2.1).v).mono ?_
    rintro e W1 ⟨⟨⟨a1, n1, c1⟩, ⟨b1, m1, d1⟩⟩, rfl, hN, hb⟩
    have hsW1 := hb.size
    have H1 := Lib.hid (show _ ∧ _ ∧ _ ∧ _ from ⟨below_after HQ.out.1 hb HQ.out.1.size, blk_below HQ.out.2.2.2.2.1 hb (Array.getElem?_eq_some_iff.1 HQ.out.2.2.2.2.1).1, blk_below HQ.out.2.2.2.2.2 hb (Array.getElem?_eq_some_iff.1 HQ.out.2.2.2.2.2).1, hN⟩)
    clear HQ
    clear hb
    dsimp only [vN] at *
    clear hN
    have q0 := blk_cell H1.out.2.1 0
    have qf0 := blk_free H1.out.2.1 0
    have q1 := blk_cell H1.out.2.1 1
    have qf1 := blk_free H1.out.2.1 1
    simp at q0 q1
    go_upto_region 18 with fail
    clear q0 q1 qf0 qf1
    have hsW2 : W1.heap.size ≤ ((W1.setCell ⟨w.heap.size + 1 + 1, 0, none⟩ (.slice a1 n1 c1)).setCell ⟨w.heap.size + 1 + 1, 1, none⟩ (.slice b1 m1 d1)).heap.size := by rw [World.size_setCell, World.size_setCell]; exact Nat.le_refl _
    have H2 := Lib.hid (show _ ∧ _ ∧ _ ∧ _ from ⟨boxQ_below (b := w.heap.size + 1 + 1) (u0 := .slice a1 n1 c1) (u1 := .slice b1 m1 d1) (by omega) H1.out.1, boxQ_set (u0 := .slice a1 n1 c1) (u1 := .slice b1 m1 d1) H1.out.2.1, boxQ_far (b := w.heap.size + 1 + 1) (u0 := .slice a1 n1 c1) (u1 := .slice b1 m1 d1) (q := w.heap.size + 1 + 1 + 1) (by omega) H1.out.2.2.1, H1.out.2.2.2.box (a' := a1) (b' := n1) (c' := c1) (d' := b1) (e' := m1) (f' := d1) H1.out.2.1⟩)
    clear H1
    generalize hzW2 : ((W1.setCell ⟨w.heap.size + 1 + 1, 0, none⟩ (.slice a1 n1 c1)).setCell ⟨w.heap.size + 1 + 1, 1, none⟩ (.slice b1 m1 d1)) = W2 at *
    clear hzW2
    have r4 := H2.out.2.1
    have r5 := H2.out.2.2.1
    have hr : HR (v0 % 6) L A ((cutS L A pa pb false).1) ((cutS L A pa pb false).2.1) ((cutS L A pa pb false).2.2) (zP) := by rw [h6]; exact hr_cuf pa pb hN
    have HF := Lib.hid (show _ ∧ _ ∧ _ ∧ _ from ⟨H2.out.2.2.2, (PkV.zero W2), H2.out.1, hr⟩)
    clear hr H2
    have e0 := blk_cell r4 0; have e1 := blk_cell r4 1; have f0 := blk_free r4 0; have f1 := blk_free r4 1
    have g0 := blk_cell r5 0; have g1 := blk_cell r5 1; have g2 := blk_cell r5 2; have k0 := blk_free r5 0; have k1 := blk_free r5 1; have k2 := blk_free r5 2
    simp at e0 e1 g0 g1 g2
    go_region
    rw [setCell_same r4 (i := 0) (by rfl), setCell_same r4 (i := 1) (by rfl), setCell_same r5 (i := 0) (by rfl), setCell_same r5 (i := 1) (by rfl), setCell_same r5 (i := 2) (by rfl)]
    clear e0 e1 f0 f1 g0 g1 g2 k0 k1 k2
    have hd : Below W2.heap.size W2 W2.drew := (Below.refl _ _).drew
    replace r4 := blk_drew r4
    replace r5 := blk_drew r5
    have e0 := blk_cell r4 0; have e1 := blk_cell r4 1
    have g0 := blk_cell r5 0; have g1 := blk_cell r5 1; have g2 := blk_cell r5 2
    simp at e0 e1 g0 g1 g2
    go_wp2
    exact bodyPost_ret (v := .tuple #[.agg #[.slice a1 n1 c1, .slice b1 m1 d1], .agg #[.int .i64 0, .int .i64 0, .slice none 0 0], .int .i64 ((cutS L A pa pb false).1)]) (by simp [results, Try.results27, go_sem, e0, e1, g0, g1, g2]) rfl ⟨_, ((a1, n1, c1), (b1, m1, d1)), zK, (cutS L A pa pb false).2.1, (cutS L A pa pb false).2.2, zP, rfl, HF.out.1.grown hd, HF.out.2.1.grown hd, HF.out.2.2.2, HF.out.2.2.1.drew⟩
end Go.Proofs.Ythgbkdaimnejeaa
