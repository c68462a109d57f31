/- The program's Changed (layer 42). -/
import Derived.Test.YtjedpemjifcciaaCalChgM
import Derived.Laws.EntriesVeiled
namespace Go.Proofs.Ytjedpemjifcciaa
open Go.RowKit Go.Shelf

attribute [local go_sem] Oper.semAt_some

set_option maxRecDepth 100000 in
set_option maxHeartbeats 8000000 in
theorem changed_in (a : Option Addr) (b off n cap : Nat) (l : List Rt) (bef aft : Int) (w : World) (hch : Recs l) (hM : Rs w a n b off l) (h1 : 0 ≤ bef ∧ bef ≤ 16777216) (h2 : 0 ≤ aft ∧ aft ≤ 16777216) :
    CallsIn Fence.wide 5 Try.prog 17 #[.slice a n cap, .int .i64 bef, .int .i64 aft] w fun e w' => ∃ v, e = .returned (.tuple #[v, .int .i64 0]) ∧ YsO w' w.heap.size v (chTo l bef aft 16) ∧ Below w.heap.size w w' := by
  have hro : Fence.wide.round = none := rfl
  have hlen := hM.1
  have hn : n ≤ 256 := by rw [← hlen]; exact hch.1
  have hc0 := chkR_yes hch
  have v1 := within_t h1; have v2 := within_t h2
  obtain ⟨W0, hW0⟩ : ∃ W0, W0 = (((w.alloc (.cells #[.slice a n cap] 22)).alloc (.cells #[.int .i64 bef] 3)).alloc (.cells #[.int .i64 aft] 3)).alloc (.cells #[.slice none 0 0] 34) := ⟨_, rfl⟩
  have hB0 : Below w.heap.size w W0 := by rw [hW0]; go_grown
  have k0 : W0.heap[w.heap.size]? = some (.cells #[.slice a n cap] 22 (0, 0)) := by rw [hW0]; exact blk_alloc (blk_alloc (blk_alloc (blk_new w _) _) _) _
  have k1 : W0.heap[w.heap.size + 1]? = some (.cells #[.int .i64 bef] 3 (0, 0)) := by
    rw [hW0]; have := blk_new (w.alloc (.cells #[.slice a n cap] 22)) (.cells #[.int .i64 bef] 3); rw [World.size_alloc] at this; exact blk_alloc (blk_alloc this _) _
  have k2 : W0.heap[w.heap.size + 1 + 1]? = some (.cells #[.int .i64 aft] 3 (0, 0)) := by
    rw [hW0]; have := blk_new ((w.alloc (.cells #[.slice a n cap] 22)).alloc (.cells #[.int .i64 bef] 3)) (.cells #[.int .i64 aft] 3); rw [World.size_alloc, World.size_alloc] at this; exact blk_alloc this _
  have k3 : W0.heap[w.heap.size + 1 + 1 + 1]? = some (.cells #[.slice none 0 0] 34 (0, 0)) := by
    rw [hW0]; have := blk_new (((w.alloc (.cells #[.slice a n cap] 22)).alloc (.cells #[.int .i64 bef] 3)).alloc (.cells #[.int .i64 aft] 3)) (.cells #[.slice none 0 0] 34); rw [World.size_alloc, World.size_alloc, World.size_alloc] at this; exact this
  have z0 : w.heap.size + 4 ≤ W0.heap.size := by rw [hW0]; simp
  have HR := Lib.hid (show ChR w W0 a n cap bef aft [] from ⟨k0, k1, k2, ⟨_, k3, YsO.nil _ _⟩, hB0, z0⟩)
  have HM := Lib.hid (show _ ∧ _ ∧ _ from ⟨hM, hch, hlen⟩)
  clear k0 k1 k2 k3 hB0 z0 hM hch h1 h2 hlen
  have HC0 := Lib.hid hc0; clear hc0
  refine callsIn_of_wp_marks Try.func17 rfl trivial ?_ hro
  simp only [Try.ntmps17, List.size_toArray, List.length_cons, List.length_nil, Nat.reduceAdd, Nat.reduceSub, Array.replicate_succ, Array.replicate_zero, List.push_toArray, List.append_toArray, List.nil_append, List.cons_append]
  gi_wp2
  refine ⟨trivial, ?_⟩
  rw [← hW0]
  clear hW0
  refine (callsIn_wide.2 (check_any a n cap b off l W0 (HM.out.1.grown HR.out.bel) (by omega))).mono ?_
  rintro e W1 ⟨rfl, hb1⟩
  rw [HC0.out]
  have HR1 := Lib.hid (HR.out.below hb1)
  clear hb1
  have c1 := blk_cell HR1.out.s1 0; have c2 := blk_cell HR1.out.s2 0
  simp at c1 c2
  gi_wp2
  refine ⟨trivial, ?_⟩
  refine (callsIn_wide.2 (within_any _ _ _ _)).mono ?_
  rintro e w' ⟨rfl, rfl⟩
  rw [v1]
  gi_wp2
  refine ⟨trivial, ?_⟩
  refine (callsIn_wide.2 (within_any _ _ _ _)).mono ?_
  rintro e w' ⟨rfl, rfl⟩
  rw [v2]
  gi_wp2
  refine wpIn_loop (fun a' w' => ∃ (k : Nat) (Ds : List Nat) (u9 u27 u28 u29 u30 u31 u80 : Value), a' = { tmps := List.toArray (Value.slice a n cap :: Value.int .i64 bef :: Value.int .i64 aft :: Value.pointer (some ⟨w.heap.size, 0, none⟩) :: Value.pointer (some ⟨w.heap.size + 1, 0, none⟩) :: Value.pointer (some ⟨w.heap.size + 1 + 1, 0, none⟩) :: Value.pointer (some ⟨w.heap.size + 1 + 1 + 1, 0, none⟩) :: Value.int .i64 0 :: Value.int .i64 0 :: u9 :: undef :: undef :: undef :: Value.slice a n cap :: Value.int .i64 0 :: Value.int .i64 0 :: Value.bool false :: undef :: Value.int .i64 bef :: Value.bool true :: Value.bool false :: Value.bool false :: Value.int .i64 aft :: Value.bool true :: Value.bool false :: Value.bool false :: Value.int .i64 (k : Int) :: u27 :: u28 :: u29 :: u30 :: u31 :: undef :: undef :: undef :: undef :: undef :: undef :: undef :: undef :: undef :: undef :: undef :: undef :: undef :: undef :: undef :: undef :: undef :: undef :: undef :: undef :: undef :: undef :: undef :: undef :: undef :: undef :: undef :: undef :: undef :: undef :: undef :: undef :: undef :: undef :: undef :: undef :: undef :: undef :: undef :: undef :: undef :: undef :: undef :: undef :: undef :: undef :: undef :: undef :: u80 :: undef :: []), defers := Ds.map mk } ∧ k ≤ 16 ∧ ChR w w' a n cap bef aft (chTo l bef aft k) ∧ Marks w.heap.size w'.heap.size Ds w') (fun a' _ => 16 - (intOf (a'.tmps.getD 26 undef)).toNat) ?_ ?_
  · exact ⟨0, [], _, _, _, _, _, _, _, rfl, by omega, HR1.out, ⟨List.nodup_nil, fun D hD => by cases hD⟩⟩
  rintro a' wr ⟨k, Ds, u9, u27, u28, u29, u30, u31, u80, rfl, hk, hR, hMk⟩
  clear HR1 HR c1 c2
  have HK := Lib.hid (show _ ∧ _ from ⟨hR, hMk⟩)
  have c0 : wr.cell? ⟨w.heap.size, 0, none⟩ = some (.slice a n cap) := blk_cell hR.s0 0
  have hbb := hR.bb
  have hlw : w.heap.size < wr.heap.size := by omega
  clear hR hMk
  generalize hds : Ds.map mk = ds at *
  have HDS := Lib.hid hds
  by_cases hlt : k < 16
  case neg =>
    obtain rfl : k = 16 := by omega
    obtain ⟨v, hv, hO⟩ := HK.out.1.s3
    obtain ⟨va, m, vc, rfl⟩ : ∃ a m c, v = .slice a m c := by obtain ⟨a', _, c', h', _⟩ := hO.s; exact ⟨a', _, c', h'⟩
    have c3 : wr.cell? ⟨w.heap.size + 1 + 1 + 1, 0, none⟩ = some (.slice va m vc) := blk_cell hv 0
    have f3 : wr.frozen? ⟨w.heap.size + 1 + 1 + 1, 0, none⟩ = false := blk_free hv 0
    have h4 := one_setCell (u := .slice va m vc) hv
    have hbl := HK.out.1.bel.setCell (p := ⟨w.heap.size + 1 + 1 + 1, 0, none⟩) (show w.heap.size ≤ w.heap.size + 1 + 1 + 1 by omega) (.slice va m vc)
    have H4 := Lib.hid (show _ ∧ _ ∧ _ ∧ _ from ⟨h4, hO.setFar (p := w.heap.size + 1 + 1 + 1) (u := .slice va m vc) (by omega), hbl, HK.out.2.keeps (KeepsOthers.setCell wr ⟨w.heap.size + 1 + 1 + 1, 0, none⟩ (.slice va m vc))⟩)
    clear hv hO h4 hbl c0
    gi_wp2
    clear c3 f3
    generalize wr.setCell ⟨w.heap.size + 1 + 1 + 1, 0, none⟩ (.slice va m vc) = WF at *
    rw [← HDS.out]
    refine leaves_marks Ds WF H4.out.2.2.2 (fun W' hb hk => ?_)
    have c3 : W'.cell? ⟨w.heap.size + 1 + 1 + 1, 0, none⟩ = some (.slice va m vc) := blk_cell (hk _ _ H4.out.1 rfl) 0
    exact ⟨.tuple #[.slice va m vc, .int .i64 0], by simp [results, Try.results17, go_sem, c3], _, rfl, (H4.out.2.1.cells hk).mono (by omega), H4.out.2.2.1.trans hb⟩
  have hlt' : decide ((k : Int) < 16) = true := decide_eq_true (by omega)
  gi_wp2
  refine ⟨trivial, ?_⟩
  refine (stretches_in Fence.wide _ trivial rfl _ _ _ _ _).mono ?_
  rintro e w' ⟨rfl, rfl⟩
  gi_wp2
  obtain ⟨X, hX⟩ : ∃ X, X = wr.heap.size := ⟨_, rfl⟩
  obtain ⟨W2, hW2⟩ : ∃ W2, W2 = (((wr.alloc (.cells #[.int .i64 (k : Int)] 3)).alloc (.cells #[.slice a n cap] 22)).alloc (.cells #[.int .i64 (k : Int)] 3)) := ⟨_, rfl⟩
  have zW : W2.heap.size = X + 3 := by rw [hW2, hX]; simp
  have hBW : Below wr.heap.size wr W2 := by rw [hW2]; go_grown
  have n1 : W2.heap[X]? = some (.cells #[.int .i64 (k : Int)] 3 (0, 0)) := by rw [hW2, hX]; exact blk_alloc (blk_alloc (blk_new _ _) _) _
  have n2 : W2.heap[X + 1]? = some (.cells #[.slice a n cap] 22 (0, 0)) := by
    rw [hW2, hX]; have := blk_new (wr.alloc (.cells #[.int .i64 (k : Int)] 3)) (.cells #[.slice a n cap] 22); rw [World.size_alloc] at this; exact blk_alloc this _
  have n3 : W2.heap[X + 1 + 1]? = some (.cells #[.int .i64 (k : Int)] 3 (0, 0)) := by
    rw [hW2, hX]; have := blk_new ((wr.alloc (.cells #[.int .i64 (k : Int)] 3)).alloc (.cells #[.slice a n cap] 22)) (.cells #[.int .i64 (k : Int)] 3); rw [World.size_alloc, World.size_alloc] at this; exact this
  have hMk2 := HK.out.2.keeps (keeps_below hBW)
  rw [← hW2, ← hX]
  rw [← hX] at hMk2 hbb hlw
  have hR2 := HK.out.1.below hBW
  clear hW2 hX c0
  refine wpIn_rangeFunc_ownH rfl (by omega) (gf := 37) (lb := #[.pointer (some ⟨X + 1, 0, none⟩), .pointer (some ⟨X + 1 + 1, 0, none⟩)]) rfl trivial (enters_of Try.func37 (by kernel_rfl) rfl)
    (stretches_stopsO Fence.wide _ trivial rfl (by omega) (X + 1) (X + 1 + 1) b off n cap a l (k : Int) (ownC w) HM.out.2.2 hn W2 (by rintro k' cs (⟨_, _, _, h⟩ | ⟨_, _, _, h⟩) <;> cases h) n2 n3 (HM.out.1.grown hR2.bel)
      (by rintro (⟨_, _, _, h⟩ | ⟨_, _, _, h⟩) <;> cases h) (by rintro (⟨_, _, _, h⟩ | ⟨_, _, _, h⟩) <;> cases h) (fun h0 ob => by have := (HM.out.1.2.1 h0).2; rintro (⟨h, _⟩ | ⟨h, _⟩) <;> omega))
    kpO_t kpO_b (Below.refl _ _) (fun _ => rfl)
    (fun pre W => ChR w W a n cap bef aft (pre.foldl (stepY l bef aft k) (chTo l bef aft k)) ∧ W.heap[X]? = some (.cells #[.int .i64 (k : Int)] 3 (0, 0)) ∧ Marks w.heap.size X Ds W)
    (fun c pre W => False)
    (fun pre A B row hs hg hr => ⟨hs.1.grown hg fun q e => ⟨by have := (hr q e).1; omega, (hr q e).2⟩, blk_kept hs.2.1 hg fun q e => (hr q e).2, ⟨hs.2.2.nd, fun D hD => by
      obtain ⟨m1, m2, m3⟩ := hs.2.2.at' D hD
      exact ⟨m1, m2, (hg.block D (Array.getElem?_eq_some_iff.1 m3).1 fun e => by have := (hr D e.symm).1; omega).trans m3⟩⟩⟩)
    (fun c => fun _ _ _ _ hs _ _ => hs)
    ⟨hR2, n1, hMk2⟩
    (fun x a' W => a' = { tmps := List.toArray (Value.slice a n cap :: Value.int .i64 bef :: Value.int .i64 aft :: Value.pointer (some ⟨w.heap.size, 0, none⟩) :: Value.pointer (some ⟨w.heap.size + 1, 0, none⟩) :: Value.pointer (some ⟨w.heap.size + 1 + 1, 0, none⟩) :: Value.pointer (some ⟨w.heap.size + 1 + 1 + 1, 0, none⟩) :: Value.int .i64 0 :: Value.int .i64 0 :: Value.pointer (some ⟨X, 0, none⟩) :: Value.int .i64 x.1 :: Value.int .i64 x.2 :: undef :: Value.slice a n cap :: Value.int .i64 0 :: Value.int .i64 0 :: Value.bool false :: undef :: Value.int .i64 bef :: Value.bool true :: Value.bool false :: Value.bool false :: Value.int .i64 aft :: Value.bool true :: Value.bool false :: Value.bool false :: Value.int .i64 (k : Int) :: Value.bool true :: Value.int .i64 (k : Int) :: Value.slice a n cap :: Value.int .i64 (k : Int) :: Value.func (.func 37) #[] #[.pointer (some ⟨X + 1, 0, none⟩), .pointer (some ⟨X + 1 + 1, 0, none⟩)] :: Value.int .i64 x.1 :: Value.int .i64 x.2 :: undef :: undef :: undef :: undef :: undef :: undef :: undef :: undef :: undef :: undef :: undef :: undef :: undef :: undef :: undef :: undef :: undef :: undef :: undef :: undef :: undef :: undef :: undef :: undef :: undef :: undef :: undef :: undef :: undef :: undef :: undef :: undef :: undef :: undef :: undef :: undef :: undef :: undef :: undef :: undef :: undef :: undef :: undef :: undef :: undef :: undef :: u80 :: undef :: []), defers := [] }) (fun x a' => fun _ _ _ _ hs _ _ => hs) ?assign ?body ?done ?stop
  case assign =>
    rintro lp pre x W K hI hK
    simp only [eS]
    gi_wp2
    exact hK _ _ ((KeepsOthers.refl _).from _) (KpO.refl _ _) hI rfl
  case body =>
    rintro lp pre x a' W _ _ ⟨hRb, hXb, hMb⟩ rfl hN
    have hlp := foldY_len l bef aft k pre (chTo l bef aft k)
    have hcl := chTo_len l bef aft k
    rw [HM.out.2.2] at hcl
    have hml : (pre.foldl (stepY l bef aft k) (chTo l bef aft k)).length ≤ 1100000 := by
      have : k * (n + 1) ≤ 16 * 257 := Nat.mul_le_mul (by omega) (by omega)
      omega
    have hfs : (pre ++ [x]).foldl (stepY l bef aft k) (chTo l bef aft k) = stepY l bef aft k (pre.foldl (stepY l bef aft k) (chTo l bef aft k)) x := by simp
    have HFS := Lib.hid hfs
    clear hfs hlp hcl hN
    generalize pre.foldl (stepY l bef aft k) (chTo l bef aft k) = xs at *
    obtain ⟨f, t⟩ := x
    dsimp only
    have HI := Lib.hid (show _ ∧ _ ∧ _ from ⟨hRb, hXb, hMb⟩)
    have s0 := cell_regrown (blk_cell hRb.s0 0); have s1 := cell_regrown (blk_cell hRb.s1 0); have s2 := cell_regrown (blk_cell hRb.s2 0); have sX := cell_regrown (blk_cell hXb 0)
    simp at s0 s1 s2 sX
    have hEq := run_eq_C (cnt l k f bef l.length) (cnt l k f aft l.length)
    clear hRb hXb hMb
    by_cases hq0 : cnt l k f bef l.length = cnt l k f aft l.length
    · have N := Lib.hid (stepY_no (l := l) (bef := bef) (aft := aft) (d := k) (x := xs) (s := (f, t)) hq0)
      rw [decide_eq_true hq0] at hEq
      clear hq0
      gi_wp2
      refine wpIn_round_quiet_below (by kernel_rfl) (by kernel_rfl) (by rintro ⟨_, _, h⟩; exact h) (by kernel_rfl) ?_
      repeat (go_big_quiet_step (((go_at_call 28; first | with_reducible exact Calls.regrown_of (counts_any a n cap b off l k f bef _ (HM.out.1.grown (below_after HI.out.1.bel (below_regrown W _ _) HI.out.1.bel.size)) (by omega)) | with_reducible exact Calls.regrown_of (counts_any a n cap b off l k f aft _ (HM.out.1.grown (below_after HI.out.1.bel (below_regrown W _ _) HI.out.1.bel.size)) (by omega))))))
      refine wpQuiet_nil ?_
      intro WQ hq'
      have hq := of_regrown hq'
      clear hq'
      gi_wp2
      exact ⟨(keeps_below hq).from _, KpO.below _ hq, by rw [HFS.out, N.out]; exact HI.out.1.below hq, blk_below HI.out.2.1 hq (Array.getElem?_eq_some_iff.1 HI.out.2.1).1, HI.out.2.2.keeps (keeps_below hq)⟩
    · have N := Lib.hid (stepY_yes (l := l) (bef := bef) (aft := aft) (d := k) (x := xs) (s := (f, t)) hq0)
      rw [decide_eq_false hq0] at hEq
      clear hq0
      gi_wp2
      refine wpIn_round_quiet_below (by kernel_rfl) (by kernel_rfl) (by rintro ⟨_, _, h⟩; exact h) (by kernel_rfl) ?_
      repeat (go_big_quiet_step (((go_at_call 28; first | with_reducible exact Calls.regrown_of (counts_any a n cap b off l k f bef _ (HM.out.1.grown (below_after HI.out.1.bel (below_regrown W _ _) HI.out.1.bel.size)) (by omega)) | with_reducible exact Calls.regrown_of (counts_any a n cap b off l k f aft _ (HM.out.1.grown (below_after HI.out.1.bel (below_regrown W _ _) HI.out.1.bel.size)) (by omega))))))
      refine wpQuiet_nil ?_
      intro WQ hq'
      have hq := of_regrown hq'
      clear hq'
      have HQ := Lib.hid (show ChR w WQ a n cap bef aft xs ∧ WQ.heap[X]? = some (.cells #[.int .i64 (k : Int)] 3 (0, 0)) ∧ Marks w.heap.size X Ds WQ ∧ KeepsOthers W WQ ∧ KpO (ownC w) W WQ from ⟨HI.out.1.below hq, blk_below HI.out.2.1 hq (Array.getElem?_eq_some_iff.1 HI.out.2.1).1, HI.out.2.2.keeps (keeps_below hq), keeps_below hq, KpO.below _ hq⟩)
      clear hq s0 s1 s2 sX hEq
      obtain ⟨v, hv, hO⟩ := HQ.out.1.s3
      obtain ⟨va, vb, vc, rfl, -, -, -, -, -⟩ := hO.s
      have eX : WQ.cell? ⟨X, 0, none⟩ = some (.int .i64 (k : Int)) := blk_cell HQ.out.2.1 0
      have e3 : WQ.cell? ⟨w.heap.size + 1 + 1 + 1, 0, none⟩ = some (.slice va xs.length vc) := blk_cell hv 0
      have hsQ := HQ.out.1.bb
      have hXQ := (Array.getElem?_eq_some_iff.1 HQ.out.2.1).1
      rcases Nat.eq_zero_or_pos xs.length with hm | hm
      · have P := Lib.hid (pushY_app (d := k) (x := xs) (s := (f, t)) (by omega))
        obtain rfl : xs = [] := List.eq_nil_of_length_eq_zero hm
        simp only [List.length_nil] at e3 hv hO
        have eX' := cell_regrown eX; have e3' := cell_regrown e3
        have HV := Lib.hid (show _ ∧ _ from ⟨hv, hO⟩)
        clear hv hO hm hml
        gi_wp2
        refine wpIn_round_quiet_below (by kernel_rfl) (by kernel_rfl) (by rintro ⟨_, _, h⟩; exact h) (by kernel_rfl) ?_
        repeat (go_big_quiet_step ((fail)))
        refine wpQuiet_nil ?_
        intro WR hr'
        have hr := of_regrown hr'
        clear hr'
        have r3 : WR.cell? ⟨w.heap.size + 1 + 1 + 1, 0, none⟩ = _ := (hr.cell (p := ⟨w.heap.size + 1 + 1 + 1, 0, none⟩) (show w.heap.size + 1 + 1 + 1 < WQ.heap.size by omega)).trans e3
        have rX : WR.cell? ⟨X, 0, none⟩ = _ := (hr.cell (p := ⟨X, 0, none⟩) (show X < WQ.heap.size by omega)).trans eX
        have HR3 := Lib.hid (show _ ∧ _ ∧ _ ∧ _ from ⟨HQ.out.1.below hr, blk_below HV.out.1 hr (by omega), (HV.out.2).below hr (Nat.le_refl _), blk_below HQ.out.2.1 hr hXQ⟩)
        have HR4 := Lib.hid (show _ ∧ _ ∧ _ ∧ _ from ⟨HQ.out.2.2.2.1.trans (keeps_below hr), kpO_t HQ.out.2.2.2.2 (KpO.below _ hr), HQ.out.2.2.1.keeps (keeps_below hr), hr⟩)
        have hsR := HR3.out.1.bb
        clear hr eX e3 eX' e3'
        gi_wp2_with (gi_at_builtin; refine wpListIn_append_Y rfl _ _ rfl (w.heap.size + 4) (.slice va 0 vc) [] rfl (HR3.out.2.2.1.alloc _) WR.heap.size ((k : Int), f, t) rfl 40 (0, 0) (blk_new _ _) (by first | omega | simp) (by simp; omega) ?_; intro v2 w2 hO2 hB2 hG2; obtain ⟨ga2, m2, gc2, rfl⟩ : ∃ a m c, v2 = .slice a m c := (by obtain ⟨a', _, c', h', _⟩ := hO2.s; exact ⟨a', _, c', h'⟩); have c9 : w2.cell? ⟨w.heap.size + 1 + 1 + 1, 0, none⟩ = _ := blk_cell (blk_below (blk_alloc HR3.out.2.1 _) hB2 (by omega)) 0; have f9 : w2.frozen? ⟨w.heap.size + 1 + 1 + 1, 0, none⟩ = false := blk_free (blk_below (blk_alloc HR3.out.2.1 _) hB2 (by omega)) 0; have HP := Lib.hid (HR3.out.1.push HR3.out.2.1 HR3.out.2.2.1 hO2 hG2); clear hO2 hB2 hG2)
        have HG := Lib.hid (HP.out.2.1.same X _ HR3.out.2.2.2 rfl (by rintro (⟨_, _, _, h⟩ | ⟨_, _, _, h⟩) <;> cases h))
        exact ⟨(HR4.out.1.trans HP.out.1).from _, kpO_t HR4.out.2.1 HP.out.2.1, by rw [HFS.out, N.out, P.out]; exact HP.out.2.2, HG.out, HR4.out.2.2.1.keeps HP.out.1⟩
      · obtain ⟨i, hi⟩ : ∃ i, xs.length = i + 1 := ⟨xs.length - 1, by omega⟩
        have hge := encLY_get xs i (by omega)
        have hib : i < 1100000 := by omega
        have hil : xs.length ≤ 1100000 := hml
        obtain ⟨g, c, hvv, hgB⟩ := hO.inBlock hi (by omega)
        rw [hvv] at e3 hv hO
        have p0 : WQ.cell? ⟨g, i * 3, none⟩ = some (.int .i64 (nthY xs i).1) := (hO.cellAt hi _ (by omega)).trans hge.1
        have p2 : WQ.cell? ⟨g, i * 3 + 2, none⟩ = some (.int .i64 (nthY xs i).2.2) := (hO.cellAt hi _ (by omega)).trans hge.2.2
        have pf := hO.freeAt hi (i * 3 + 2)
        have hgw := hO.block.2
        obtain ⟨_, hgw⟩ := hgw
        replace hgw := (Array.getElem?_eq_some_iff.1 hgw).1
        have hpS := fun h => pushY_set (d := k) (x := xs) (s := (f, t)) h
        have hpA := fun h => pushY_app (d := k) (x := xs) (s := (f, t)) h
        rw [hi, Nat.add_sub_cancel] at hpS hpA
        have HV := Lib.hid (show _ ∧ _ ∧ _ ∧ _ ∧ _ from ⟨hv, hO, hi, hpS, hpA⟩)
        clear hv hO hi hpS hpA hge hvv hm
        generalize hy : nthY xs i = y at *
        obtain ⟨y0, y1, y2⟩ := y
        dsimp only at p0 p2
        have HY := Lib.hid hy
        clear hy
        have eX' := cell_regrown eX; have e3' := cell_regrown e3; have p0' := cell_regrown p0; have p2' := cell_regrown p2
        have zi : decide ((0 : Int) ≤ (i : Int)) = true := decide_eq_true (by omega)
        by_cases q0 : y0 = (k : Int)
        case neg =>
          have z0 : (y0 == (k : Int)) = false := by simpa using q0
          have P := Lib.hid (HV.out.2.2.2.2 (fun h => q0 h.2.1))
          clear q0
          gi_wp2
          refine wpIn_round_quiet_below (by kernel_rfl) (by kernel_rfl) (by rintro ⟨_, _, h⟩; exact h) (by kernel_rfl) ?_
          repeat (go_big_quiet_step ((fail)))
          refine wpQuiet_nil ?_
          intro WR hr'
          have hr := of_regrown hr'
          clear hr'
          have r3 : WR.cell? ⟨w.heap.size + 1 + 1 + 1, 0, none⟩ = _ := (hr.cell (p := ⟨w.heap.size + 1 + 1 + 1, 0, none⟩) (show w.heap.size + 1 + 1 + 1 < WQ.heap.size by omega)).trans e3
          have rX : WR.cell? ⟨X, 0, none⟩ = _ := (hr.cell (p := ⟨X, 0, none⟩) (show X < WQ.heap.size by omega)).trans eX
          have HR3 := Lib.hid (show _ ∧ _ ∧ _ ∧ _ from ⟨HQ.out.1.below hr, blk_below HV.out.1 hr (by omega), (HV.out.2.1).below hr (Nat.le_refl _), blk_below HQ.out.2.1 hr hXQ⟩)
          have HR4 := Lib.hid (show _ ∧ _ ∧ _ ∧ _ from ⟨HQ.out.2.2.2.1.trans (keeps_below hr), kpO_t HQ.out.2.2.2.2 (KpO.below _ hr), HQ.out.2.2.1.keeps (keeps_below hr), hr⟩)
          have hsR := HR3.out.1.bb
          clear hr eX e3 eX' e3' p0 p2 pf p0' p2'
          gi_wp2_with (gi_at_builtin; refine wpListIn_append_Y rfl _ _ rfl (w.heap.size + 4) (.slice (some ⟨g, 0, none⟩) (i + 1) c) xs rfl (HR3.out.2.2.1.alloc _) WR.heap.size ((k : Int), f, t) rfl 40 (0, 0) (blk_new _ _) (by first | omega | simp) (by simp; omega) ?_; intro v2 w2 hO2 hB2 hG2; obtain ⟨ga2, m2, gc2, rfl⟩ : ∃ a m c, v2 = .slice a m c := (by obtain ⟨a', _, c', h', _⟩ := hO2.s; exact ⟨a', _, c', h'⟩); have c9 : w2.cell? ⟨w.heap.size + 1 + 1 + 1, 0, none⟩ = _ := blk_cell (blk_below (blk_alloc HR3.out.2.1 _) hB2 (by omega)) 0; have f9 : w2.frozen? ⟨w.heap.size + 1 + 1 + 1, 0, none⟩ = false := blk_free (blk_below (blk_alloc HR3.out.2.1 _) hB2 (by omega)) 0; have HP := Lib.hid (HR3.out.1.push HR3.out.2.1 HR3.out.2.2.1 hO2 hG2); clear hO2 hB2 hG2)
          have HG := Lib.hid (HP.out.2.1.same X _ HR3.out.2.2.2 rfl (by rintro (⟨_, _, _, h⟩ | ⟨_, _, _, h⟩) <;> cases h))
          exact ⟨(HR4.out.1.trans HP.out.1).from _, kpO_t HR4.out.2.1 HP.out.2.1, by rw [HFS.out, N.out, P.out]; exact HP.out.2.2, HG.out, HR4.out.2.2.1.keeps HP.out.1⟩
        have z0 : (y0 == (k : Int)) = true := by simpa using q0
        by_cases q1 : y2 = f
        case neg =>
          have z1 : (y2 == f) = false := by simpa using q1
          have P := Lib.hid (HV.out.2.2.2.2 (fun h => q1 h.2.2))
          clear q0 q1
          gi_wp2
          refine wpIn_round_quiet_below (by kernel_rfl) (by kernel_rfl) (by rintro ⟨_, _, h⟩; exact h) (by kernel_rfl) ?_
          repeat (go_big_quiet_step ((fail)))
          refine wpQuiet_nil ?_
          intro WR hr'
          have hr := of_regrown hr'
          clear hr'
          have r3 : WR.cell? ⟨w.heap.size + 1 + 1 + 1, 0, none⟩ = _ := (hr.cell (p := ⟨w.heap.size + 1 + 1 + 1, 0, none⟩) (show w.heap.size + 1 + 1 + 1 < WQ.heap.size by omega)).trans e3
          have rX : WR.cell? ⟨X, 0, none⟩ = _ := (hr.cell (p := ⟨X, 0, none⟩) (show X < WQ.heap.size by omega)).trans eX
          have HR3 := Lib.hid (show _ ∧ _ ∧ _ ∧ _ from ⟨HQ.out.1.below hr, blk_below HV.out.1 hr (by omega), (HV.out.2.1).below hr (Nat.le_refl _), blk_below HQ.out.2.1 hr hXQ⟩)
          have HR4 := Lib.hid (show _ ∧ _ ∧ _ ∧ _ from ⟨HQ.out.2.2.2.1.trans (keeps_below hr), kpO_t HQ.out.2.2.2.2 (KpO.below _ hr), HQ.out.2.2.1.keeps (keeps_below hr), hr⟩)
          have hsR := HR3.out.1.bb
          clear hr eX e3 eX' e3' p0 p2 pf p0' p2'
          gi_wp2_with (gi_at_builtin; refine wpListIn_append_Y rfl _ _ rfl (w.heap.size + 4) (.slice (some ⟨g, 0, none⟩) (i + 1) c) xs rfl (HR3.out.2.2.1.alloc _) WR.heap.size ((k : Int), f, t) rfl 40 (0, 0) (blk_new _ _) (by first | omega | simp) (by simp; omega) ?_; intro v2 w2 hO2 hB2 hG2; obtain ⟨ga2, m2, gc2, rfl⟩ : ∃ a m c, v2 = .slice a m c := (by obtain ⟨a', _, c', h', _⟩ := hO2.s; exact ⟨a', _, c', h'⟩); have c9 : w2.cell? ⟨w.heap.size + 1 + 1 + 1, 0, none⟩ = _ := blk_cell (blk_below (blk_alloc HR3.out.2.1 _) hB2 (by omega)) 0; have f9 : w2.frozen? ⟨w.heap.size + 1 + 1 + 1, 0, none⟩ = false := blk_free (blk_below (blk_alloc HR3.out.2.1 _) hB2 (by omega)) 0; have HP := Lib.hid (HR3.out.1.push HR3.out.2.1 HR3.out.2.2.1 hO2 hG2); clear hO2 hB2 hG2)
          have HG := Lib.hid (HP.out.2.1.same X _ HR3.out.2.2.2 rfl (by rintro (⟨_, _, _, h⟩ | ⟨_, _, _, h⟩) <;> cases h))
          exact ⟨(HR4.out.1.trans HP.out.1).from _, kpO_t HR4.out.2.1 HP.out.2.1, by rw [HFS.out, N.out, P.out]; exact HP.out.2.2, HG.out, HR4.out.2.2.1.keeps HP.out.1⟩
        have z1 : (y2 == f) = true := by simpa using q1
        have P := Lib.hid (HV.out.2.2.2.1 ⟨by omega, q0, q1⟩)
        clear q0 q1
        gi_wp2
        refine wpIn_round_quiet_below (by kernel_rfl) (by kernel_rfl) (by rintro ⟨_, _, h⟩; exact h) (by kernel_rfl) ?_
        repeat (go_big_quiet_step ((fail)))
        refine wpQuiet_nil ?_
        intro WR hr'
        have hr := of_regrown hr'
        clear hr'
        obtain ⟨k1, k2, k3⟩ := (HQ.out.1.below hr).set (blk_below HV.out.1 hr (by omega)) (HV.out.2.1.below hr (Nat.le_refl _)) HV.out.2.2.1 (i := i) (by rw [HV.out.2.2.1]; omega) t
        have HS := Lib.hid (show _ ∧ _ ∧ _ from ⟨HQ.out.2.2.2.1.trans ((keeps_below hr).trans k1), kpO_t HQ.out.2.2.2.2 (kpO_t (KpO.below _ hr) k2), k3⟩)
        have HG := Lib.hid (show (WR.setCell ⟨g, i * 3 + 2, none⟩ (.int .i64 t)).heap[X]? = some (.cells #[.int .i64 (k : Int)] 3 (0, 0)) from (Below.heap_setCell WR ⟨g, i * 3 + 2, none⟩ (.int .i64 t) X (fun e => by
          have h1 := blk_below HQ.out.2.1 hr hXQ
          obtain ⟨_, cur, h2⟩ := (HV.out.2.1.below hr (Nat.le_refl _)).block
          rw [show X = g from e, h2] at h1
          cases h1)).trans (blk_below HQ.out.2.1 hr hXQ))
        have r3 : WR.cell? ⟨w.heap.size + 1 + 1 + 1, 0, none⟩ = _ := (hr.cell (p := ⟨w.heap.size + 1 + 1 + 1, 0, none⟩) (show w.heap.size + 1 + 1 + 1 < WQ.heap.size by omega)).trans e3
        have r2 : WR.cell? ⟨g, i * 3 + 2, none⟩ = _ := (hr.cell (p := ⟨g, i * 3 + 2, none⟩) hgw).trans p2
        have rf : WR.frozen? ⟨g, i * 3 + 2, none⟩ = _ := (hr.frozen (p := ⟨g, i * 3 + 2, none⟩) hgw).trans pf
        have HMk := Lib.hid (HQ.out.2.2.1.keeps ((keeps_below hr).trans k1))
        clear k1 k2 k3 hr eX e3 p0 p2 pf eX' e3' p0' p2'
        gi_wp2
        exact ⟨HS.out.1.from _, HS.out.2.1, by rw [HFS.out, N.out, P.out]; have h5 := HS.out.2.2; rw [HY.out] at h5; exact h5, HG.out, HMk.out⟩
  case done =>
    rintro D ys W hD hys ⟨hRd, hXd, hMd⟩ hDf
    rename_i K hK
    have hDw := (Array.getElem?_eq_some_iff.1 hDf).1
    have hch2 : ys.foldl (stepY l bef aft k) (chTo l bef aft k) = chTo l bef aft (k + 1) := by rw [hys]; rfl
    rw [hch2] at hRd
    have hMc := hMd.cons (E' := W.heap.size) (D := D) (by omega) (by omega) hDw hDf
    have HZ := Lib.hid (show _ ∧ _ from ⟨hRd, hMc⟩)
    clear hRd hXd hMd hDf hch2 hys hMc
    refine hK _ _ ?_
    gi_wp2
    refine ⟨⟨k + 1, D :: Ds, .pointer (some ⟨X, 0, none⟩), .bool true, .int .i64 (k : Int), .slice a n cap, .int .i64 (k : Int), .func (.func 37) #[] #[.pointer (some ⟨X + 1, 0, none⟩), .pointer (some ⟨X + 1 + 1, 0, none⟩)], .int .i64 ((k : Int) + 1), ?_, by omega, HZ.out.1, HZ.out.2⟩, by simp [intOf]; omega⟩
    rw [List.map_cons, HDS.out]
    rfl
  case stop =>
    rintro D cc pre W hD _ hF _
    exact hF.elim
end Go.Proofs.Ytjedpemjifcciaa
