/- The program's Bars (layer 10). -/
import Derived.Test.YtkgimglkiniofaaMetreBrR
import Derived.Laws.EntriesVeiled
namespace Go.Proofs.Ytkgimglkiniofaa
open Go.RowKit Go.Shelf

attribute [local go_sem] Oper.semAt_some

set_option maxRecDepth 100000 in
set_option maxHeartbeats 8000000 in
theorem bars_in (b off len cap : Nat) (l : List Mt) (fr to : Int) (w : World) (hch : Changes l) (hlen : l.length = len) (c : Array Value) (tb : TypeId) (frz : Nat × Nat) (hb : w.heap[b]? = some (.cells c tb frz)) (hM : Ms w (some ⟨b, off, none⟩) len b off l) (h1 : 0 ≤ fr) (h2 : fr ≤ to) (h3 : to ≤ 16777216) :
    CallsIn Fence.wide 5 Try.prog 17 #[.slice (some ⟨b, off, none⟩) len cap, .int .i64 fr, .int .i64 to] w fun e w' => Below w.heap.size w w' ∧ ∃ v, e = .returned (.tuple #[v, .int .i64 (barsE (allF l fr to (List.range l.length)))]) ∧ Ints w' w.heap.size v (barsR (allF l fr to (List.range l.length))) := by
  have hro : Fence.wide.round = none := rfl
  have hbw : b < w.heap.size := (Array.getElem?_eq_some_iff.1 hb).1
  have hc0 := chk_yes hch
  refine callsIn_of_wp_marks Try.func17 rfl trivial ?_ hro
  simp only [Try.ntmps17, List.size_toArray, List.length_cons, List.length_nil, Nat.reduceAdd, Nat.reduceSub, Array.replicate_succ, Array.replicate_zero, List.push_toArray, List.append_toArray, List.nil_append, List.cons_append]
  obtain ⟨w0, hw0⟩ : ∃ w0, w0 = (((w.alloc (.cells #[.int .i64 fr] 3)).alloc (.cells #[.int .i64 to] 3)).alloc (.cells #[.slice none 0 0] 31)) := ⟨_, rfl⟩
  have hB0 : Below w.heap.size w w0 := by rw [hw0]; go_grown
  have hM0 := hM.below hB0 hbw
  gi_wp2
  refine ⟨trivial, ?_⟩
  have z0 : w0.heap.size = w.heap.size + 3 := by rw [hw0]; simp
  have k0 : w0.heap[w.heap.size]? = some (.cells #[.int .i64 fr] 3 (0, 0)) := by rw [hw0]; exact blk_alloc (blk_alloc (blk_new w _) _) _
  have k1 : w0.heap[w.heap.size + 1]? = some (.cells #[.int .i64 to] 3 (0, 0)) := by rw [hw0]; have := blk_new (w.alloc (.cells #[.int .i64 fr] 3)) (.cells #[.int .i64 to] 3); rw [World.size_alloc] at this; exact blk_alloc this _
  have k2 : w0.heap[w.heap.size + 1 + 1]? = some (.cells #[.slice none 0 0] 31 (0, 0)) := by rw [hw0]; have := blk_new ((w.alloc (.cells #[.int .i64 fr] 3)).alloc (.cells #[.int .i64 to] 3)) (.cells #[.slice none 0 0] 31); rw [World.size_alloc, World.size_alloc] at this; exact this
  rw [← hw0]
  refine (callsIn_wide.2 (mcheck_any _ _ _ b off l _ hM0 (by have := hch.2.1; omega))).mono ?_
  rintro e w1 ⟨rfl, hb1⟩
  rw [hc0]
  replace k0 := blk_below k0 hb1 (by omega)
  replace k1 := blk_below k1 hb1 (by omega)
  replace k2 := blk_below k2 hb1 (by omega)
  have z1 := hb1.size
  have B1 := below_after hB0 hb1 (by omega)
  have c0 := blk_cell k0 0; have c1 := blk_cell k1 0
  simp at c0 c1
  have K0 := Lib.hid k0; have K1 := Lib.hid k1; have K2 := Lib.hid k2
  clear k0 k1 k2 hb1 hw0 hc0
  have g1 : decide (fr < 0) = false := decide_eq_false (by omega)
  have g2 : decide (to < fr) = false := decide_eq_false (by omega)
  have g3 : decide (16777216 < to) = false := decide_eq_false (by omega)
  gi_wp2
  refine ⟨trivial, ?_⟩
  refine (stretches_in Fence.wide _ trivial rfl _ _ _ _).mono ?_
  rintro e w' ⟨rfl, rfl⟩
  gi_wp2
  -- RANGE
  obtain ⟨W0, hW0⟩ : ∃ W0, W0 = (((w1.alloc (.cells #[.bool false] 4)).alloc (.cells #[colF w w1.heap.size] 48)).alloc (.cells #[.slice (some ⟨b, off, none⟩) len cap] 22)) := ⟨_, rfl⟩
  have zW : W0.heap.size = w1.heap.size + 1 + 1 + 1 := by rw [hW0]; simp
  have hX3 : w.heap.size + 3 ≤ w1.heap.size := by omega
  have n1 := blk_new w1 (.cells #[.bool false] 4)
  have n2 := blk_new (w1.alloc (.cells #[.bool false] 4)) (.cells #[colF w w1.heap.size] 48)
  have n3 := blk_new ((w1.alloc (.cells #[.bool false] 4)).alloc (.cells #[colF w w1.heap.size] 48)) (.cells #[.slice (some ⟨b, off, none⟩) len cap] 22)
  simp only [World.size_alloc] at n2 n3
  have hBW : Below w.heap.size w W0 := by rw [hW0]; exact ((B1.alloc (by omega) _).alloc (by simp; omega) _).alloc (by simp; omega) _
  have hR0 : BrR w W0 fr to w1.heap.size (w1.heap.size + 3) false [] := by
    rw [hW0]
    exact ⟨blk_alloc (blk_alloc (blk_alloc K0.out _) _) _, blk_alloc (blk_alloc (blk_alloc K1.out _) _) _, ⟨_, blk_alloc (blk_alloc (blk_alloc K2.out _) _) _, Ints.nil _ _⟩, blk_alloc (blk_alloc n1 _) _, blk_alloc n2 _, by simp⟩
  have jB : W0.heap[w1.heap.size + 1 + 1]? = some (.cells #[.slice (some ⟨b, off, none⟩) len cap] 22 (0, 0)) := by rw [hW0]; exact n3
  have jb := blk_below hb hBW hbw
  have jM := hM.below hBW hbw
  simp only [colF] at hW0
  rw [← hW0]
  clear hW0 n1 n2 n3 c0 c1
  generalize w1.heap.size = X at *
  refine wpIn_rangeFunc_ownH rfl (by omega) (gf := 26) (lb := #[.pointer (some ⟨X + 1 + 1, 0, none⟩)]) rfl trivial (enters_of Try.func26 (by kernel_rfl) rfl)
    (stretches_stopsO Fence.wide _ trivial rfl (by omega) (X + 1 + 1) b off len cap l (ownB w X (X + 3)) hch hlen W0 (ownB_no w X (X + 3)) c tb frz jb jB jM
      (by rintro (⟨_, _, _, h⟩ | ⟨_, _, _, h⟩ | ⟨_, _, _, h⟩) <;> cases h) (by rintro (⟨h, _⟩ | ⟨h, _⟩ | ⟨h, _⟩) <;> omega))
    kpO_t kpO_b (Below.refl _ _) (fun _ => rfl)
    (fun pre W => BrI w W l fr to X (X + 3) (ixs pre) ∧ Below w.heap.size w W)
    (fun c pre W => False ∧ Below w.heap.size w W)
    (OwnFrom.and (Own.from (fun s A B row hs hg hr => by obtain ⟨fb, xs, h1, h2⟩ := hs; exact BrI.of (h1.grown hg hr) h2) _) (ownFrom_below (Nat.le_refl _) (by omega)))
    (fun c => OwnFrom.and (Own.from (fun s A B row hs hg hr => hs.elim) _) (ownFrom_below (Nat.le_refl _) (by omega)))
    ⟨BrI.of hR0 (.inl ⟨rfl, rfl, by simp [allF, ixs]⟩), hBW⟩
    (fun x a' W => ∃ Bx, X + 3 ≤ Bx ∧ W.heap[Bx]? = some (.cells #[.int .i64 (nthM l x.1).1, .int .i64 (nthM l x.1).2.1, .int .i64 (nthM l x.1).2.2, .int .i64 (endOf l x.1), .int .i64 (lenOf l x.1)] 45 (0, 0)) ∧ a' = { tmps := #[.slice (some ⟨b, off, none⟩) len cap, .int .i64 fr, .int .i64 to, undef, .pointer (some ⟨w.heap.size, 0, none⟩), .pointer (some ⟨w.heap.size + 1, 0, none⟩), .pointer (some ⟨w.heap.size + 1 + 1, 0, none⟩), .int .i64 0, .int .i64 0, .pointer (some ⟨X, 0, none⟩), .pointer (some ⟨X + 1, 0, none⟩), .int .i64 (tickOf l x.1), .pointer (some ⟨Bx, 0, none⟩), undef, undef, .slice (some ⟨b, off, none⟩) len cap, .int .i64 0, .int .i64 0, .bool false, undef, .int .i64 fr, .bool false, .bool false, .int .i64 fr, .int .i64 to, .bool false, .bool false, .bool false, .int .i64 to, .bool false, .bool false, .func (.func 25) #[] #[.pointer (some ⟨w.heap.size + 1 + 1, 0, none⟩), .pointer (some ⟨X, 0, none⟩)], .slice (some ⟨b, off, none⟩) len cap, .func (.func 26) #[] #[.pointer (some ⟨X + 1 + 1, 0, none⟩)], .int .i64 (tickOf l x.1), .agg #[.int .i64 (nthM l x.1).1, .int .i64 (nthM l x.1).2.1, .int .i64 (nthM l x.1).2.2, .int .i64 (endOf l x.1), .int .i64 (lenOf l x.1)], undef, undef, undef, undef, undef, undef, undef, undef, undef, undef, undef, undef, undef, undef, undef, undef, undef, undef, undef, undef, undef, undef, undef, undef, undef, undef, undef, undef, undef, undef, undef, undef, undef, undef, undef, undef, undef, undef, undef, undef, undef, undef, undef, undef, undef, undef], defers := [] })
    (fun x a' => Own.from (fun s A B row hs hg hr => by obtain ⟨Bx, h1, h2, h3⟩ := hs; exact ⟨Bx, h1, blk_kept h2 hg hr, h3⟩) _) ?assign ?body ?done ?stop
  case assign =>
    rintro lp pre x W K ⟨⟨fb, xs, hI, hC⟩, hB⟩ hK
    simp only [encS]
    gi_wp2
    refine hK _ _ ((KeepsOthers.alloc _ _).from _) (KpO.alloc _ _ _) ⟨BrI.of (hI.alloc _) hC, hB.alloc hB.size _⟩ ⟨W.heap.size, hI.bb, blk_new W _, rfl⟩
  case body =>
    rintro lp pre x a' W _ _ ⟨⟨fb0, xs0, hI, hC⟩, hB⟩ ⟨Bx, hBx, hXB, rfl⟩ _
    obtain ⟨k, hk⟩ := x
    dsimp only at *
    have hxl : k < l.length := by rw [hlen]; exact hk
    have k64 : k ≤ 64 := by have := hch.2.1; omega
    have ln := lenOf_bd (hch.2.2.2 k hxl).1
    have en := endOf_bd hch hxl
    have m0 := (hch.2.2.2 k hxl).1.1
    have tk := tickOf_bd hch k (by omega)
    obtain ⟨jf, hjf, hjlo, hjge, hjbd⟩ := first_spec (fr := fr) (T := tickOf l k) (n := lenOf l k) ln.1
    have hN : endOf l k - (nthM l k).1 = (cntOf l k : Int) := by unfold cntOf; omega
    have hN2 : cntOf l k ≤ 1048577 := by unfold cntOf; omega
    have hsn := allF_snoc l fr to pre ⟨k, hk⟩
    dsimp only at hsn
    generalize allF l fr to (ixs pre) = base at *
    have HSN := Lib.hid hsn; clear hsn
    obtain ⟨q, hq⟩ : ∃ q, q = (fr - tickOf l k + lenOf l k - 1).tdiv (lenOf l k) := ⟨_, rfl⟩
    have qb := tdiv_bd (M := 200000000000000) (x := fr - tickOf l k + lenOf l k - 1) (lenOf l k) (by omega) (by omega)
    rw [← hq] at hjf qb
    have z1 : (fr - tickOf l k + lenOf l k - 1).tdiv (lenOf l k) = q := hq.symm
    have zq : IntKind.i64.wrap q = q := wrap_id (by omega)
    have zn : (lenOf l k == 0) = false := by simp; omega
    have zn2 : ¬ lenOf l k = 0 := by omega
    have zw1 : IntKind.i64.wrap (fr - tickOf l k) = fr - tickOf l k := wrap_id (by omega)
    have zw2 : IntKind.i64.wrap (fr - tickOf l k + lenOf l k) = fr - tickOf l k + lenOf l k := wrap_id (by omega)
    have zw3 : IntKind.i64.wrap (fr - tickOf l k + lenOf l k - 1) = fr - tickOf l k + lenOf l k - 1 := wrap_id (by omega)
    have zw4 : IntKind.i64.wrap (endOf l k - (nthM l k).1) = endOf l k - (nthM l k).1 := wrap_id (by omega)
    have zw5 : IntKind.i64.wrap (cntOf l k : Int) = (cntOf l k : Int) := wrap_id (by omega)
    have HJ := Lib.hid (show _ ∧ _ from ⟨hjlo, hjge⟩)
    have HQ := Lib.hid hq
    have hS0 : (fb0 = false ∧ xs0 = base ++ partL l fr to k jf ∧ xs0.length ≤ 4096) ∨ (fb0 = true ∧ xs0.length = 4096 ∧ 4096 < (base ++ partL l fr to k (cntOf l k)).length) := by
      have hp0 : partL l fr to k jf = [] := by
        rw [partL_from (j := 0) (m := jf) (fun i _ hi => by unfold inPart; have := hjlo i hi; rw [decide_eq_false (by omega)]) (by omega)]
        rfl
      rcases hC with ⟨h1, h2, h3⟩ | ⟨h1, h2, h3⟩
      · exact .inl ⟨h1, by rw [hp0, List.append_nil]; exact h2, by rw [h2]; exact h3⟩
      · exact .inr ⟨h1, h2, by rw [List.length_append]; omega⟩
    have HS0 := Lib.hid (show _ ∧ _ ∧ _ from ⟨hS0, hI, hB⟩)
    have b0 := blk_cell hI.s0 0
    have x4 := blk_cell hXB 4
    simp at b0 x4
    have HXB := Lib.hid hXB
    have HCH := Lib.hid hch
    have HLN := Lib.hid hlen
    clear hjlo hjge hq hC hS0 hI hB hXB hch hM hM0 jM hlen
    have hway : (q < 0 ∧ jf = 0) ∨ (q = 0 ∧ jf = 0) ∨ (0 < q ∧ (jf : Int) = q) := by omega
    have HW := Lib.hid hway
    have HJB := Lib.hid hjbd
    clear hway hjbd hjf
    have three : ∀ u : Value, (u = .int .i64 (0 : Int) ∧ jf = 0) ∨ (u = .int .i64 q ∧ (jf : Int) = q) → u = .int .i64 (jf : Int) := by
      rintro u (⟨rfl, h⟩ | ⟨rfl, h⟩)
      · rw [h]; rfl
      · rw [h]
    rcases HW.out with ⟨hw1, hw2⟩ | ⟨hw1, hw2⟩ | ⟨hw1, hw2⟩
    all_goals
      gi_wp2
      have HWW := Lib.hid hw2
      clear hw1 hw2 three
      gi_loopw [14] (fun u wr => ∃ (j : Nat) (fb : Bool) (xs : List Int), u = .int .i64 (j : Int) ∧ jf ≤ j ∧ (j = jf ∨ j ≤ cntOf l k) ∧ BrR w wr fr to X (X + 3) fb xs ∧ ((fb = false ∧ xs = base ++ partL l fr to k j ∧ xs.length ≤ 4096) ∨ (fb = true ∧ xs.length = 4096 ∧ 4096 < (base ++ partL l fr to k (cntOf l k)).length)) ∧ KeepsOthers W wr ∧ KpO (ownB w X (X + 3)) W wr ∧ Below w.heap.size w wr) (fun u _ => cntOf l k - (intOf u).toNat)
      case atStart => exact ⟨jf, fb0, xs0, by first | rfl | (rw [HWW.out]; rfl) | (rw [HWW.out]), Nat.le_refl _, .inl rfl, HS0.out.2.1, HS0.out.1, KeepsOthers.refl _, KpO.refl _ _, HS0.out.2.2⟩
      case round =>
        obtain ⟨j, fb, xs, rfl, hj1, hj2, hR, hS, hKO, hKr, hBr⟩ := hrel
        have hXr := hKr.same Bx _ HXB.out rfl (ownB_no _ _ _ _ _)
        have b1 := blk_cell hR.s1 0
        have b3 := blk_cell hR.s3 0
        have b4 := blk_cell hR.s4 0
        have x0 := blk_cell hXr 0
        have x3 := blk_cell hXr 3
        have x4r := blk_cell hXr 4
        simp [colF] at b1 b3 b4 x0 x3 x4r
        by_cases hjN : j < cntOf l k
        · have y1 : decide ((j : Int) < (cntOf l k : Int)) = true := decide_eq_true (by omega)
          have y1n : decide (j < cntOf l k) = true := decide_eq_true hjN
          have pj0 : 0 ≤ (j : Int) * lenOf l k := Int.mul_nonneg (by omega) (by omega)
          have pj1 : (j : Int) * lenOf l k ≤ 1048577 * lenOf l k := Int.mul_le_mul_of_nonneg_right (by omega) (by omega)
          have y2 : IntKind.i64.wrap ((j : Int) * lenOf l k) = (j : Int) * lenOf l k := wrap_id (by omega)
          have y3 : IntKind.i64.wrap (tickOf l k + (j : Int) * lenOf l k) = tickOf l k + (j : Int) * lenOf l k := wrap_id (by omega)
          have hge : fr ≤ tickOf l k + (j : Int) * lenOf l k := by
            have h5 := HJ.out.2
            have h6 := Int.mul_le_mul_of_nonneg_right (show (jf : Int) ≤ (j : Int) by omega) (show 0 ≤ lenOf l k by omega)
            omega
          have hsucc := partL_succ l fr to k j
          have hlenle := partL_len (l := l) (fr := fr) (to := to) (k := k) (j := j + 1) (m := cntOf l k) (by omega)
          have hmon : ∀ i : Nat, j ≤ i → to ≤ tickOf l k + (j : Int) * lenOf l k → inPart fr to (tickOf l k + (i : Int) * lenOf l k) = false := fun i hi ht => by
            have h6 := Int.mul_le_mul_of_nonneg_right (show (j : Int) ≤ (i : Int) by omega) (show 0 ≤ lenOf l k by omega)
            unfold inPart
            rw [decide_eq_false (by omega)]
          obtain ⟨t, ht⟩ : ∃ t, t = tickOf l k + (j : Int) * lenOf l k := ⟨_, rfl⟩
          rw [← ht] at y3 hge hsucc hmon
          have y4 : tickOf l k + (j : Int) * lenOf l k = t := ht.symm
          have HT := Lib.hid ht
          clear ht
          by_cases hto : t < to
          · have y5 : decide (t < to) = true := decide_eq_true hto
            have hin : inPart fr to t = true := by unfold inPart; rw [decide_eq_true ⟨hge, hto⟩]
            rw [hin, if_pos rfl] at hsucc
            cases fb with
            | true =>
              have hS2 : Col (base ++ partL l fr to k (cntOf l k)) true xs := by
                rcases hS with ⟨h1, _, _⟩ | ⟨h1, h2, h3⟩
                · cases h1
                · exact .inr ⟨h1, h2, h3⟩
              have HZ := Lib.hid (show _ ∧ _ ∧ _ ∧ _ ∧ _ from ⟨hKO, hKr, hS2, hR, hBr⟩)
              clear hKO hKr hS hS2 hR hBr
              gi_wp2
              exact ⟨HZ.out.1.from _, HZ.out.2.1, BrI.of HZ.out.2.2.2.1 (by rw [HSN.out]; exact HZ.out.2.2.1), HZ.out.2.2.2.2⟩
            | false =>
              have hS1 : xs = base ++ partL l fr to k j ∧ xs.length ≤ 4096 := by
                rcases hS with ⟨_, h2, h3⟩ | ⟨h1, _, _⟩
                · exact ⟨h2, h3⟩
                · cases h1
              obtain ⟨v, hv, hIv⟩ := hR.s2
              have HCA := Lib.hid (collect_any (w.heap.size + 1 + 1) X (X + 3) v false xs t wr hv hR.s3 hIv (by omega) hR.bb hS1.2)
              have HZ := Lib.hid (show _ ∧ _ ∧ _ ∧ _ ∧ _ ∧ _ ∧ _ from ⟨hKO, hKr, hR, hBr, hS1, hsucc, hlenle⟩)
              have HV := Lib.hid (show _ ∧ _ from ⟨hv, hIv⟩)
              clear hKO hKr hS hS1 hR hBr hsucc hlenle hv hIv hXr hmon hin hge
              gi_wp2
              refine ⟨trivial, ?_⟩
              refine (CallsIn.inRound lp (callsIn_wide.2 HCA.out)).mono ?_
              rintro e W3 ⟨⟨u, rfl⟩, ⟨hful, rfl⟩ | ⟨hlt4, v', w2, hO, hgr, rfl⟩⟩
              · have hF := HZ.out.2.2.1.full (by omega) (Nat.le_refl _) HZ.out.2.2.2.1
                have HF := Lib.hid hF
                have hlen2 : 4096 < (base ++ partL l fr to k (cntOf l k)).length := by
                  have a1 := HZ.out.2.2.2.2.1.1
                  have a2 := HZ.out.2.2.2.2.2.1
                  have a3 := HZ.out.2.2.2.2.2.2
                  rw [a2, List.length_append] at a3
                  rw [a1, List.length_append] at hful
                  rw [List.length_append]
                  simp only [List.length_singleton] at a3
                  omega
                have HL2 := Lib.hid (show _ ∧ _ from ⟨hful, hlen2⟩)
                clear hF hful hlen2
                gi_wp2
                go_roundw
                case rel => exact ⟨j + 1, true, xs, by go_num, by omega, .inr (by omega), HF.out.2.2.1, .inr ⟨rfl, HL2.out.1, HL2.out.2⟩, HZ.out.1.trans HF.out.1, kpO_t HZ.out.2.1 HF.out.2.1, HF.out.2.2.2⟩
                case measure => simp [intOf]; omega
              · have hF := HZ.out.2.2.1.push HV.out.1 HV.out.2 (by omega) (Nat.le_refl _) HZ.out.2.2.2.1 hO hgr
                have HF := Lib.hid hF
                have hxs : xs ++ [t] = base ++ partL l fr to k (j + 1) := by
                  rw [HZ.out.2.2.2.2.2.1, ← List.append_assoc, ← HZ.out.2.2.2.2.1.1]
                have hxl2 : (xs ++ [t]).length ≤ 4096 := by rw [List.length_append, List.length_singleton]; omega
                have HL2 := Lib.hid (show _ ∧ _ from ⟨hxs, hxl2⟩)
                clear hF hO hgr hxs hxl2 hlt4
                gi_wp2
                go_roundw
                case rel => exact ⟨j + 1, false, xs ++ [t], by go_num, by omega, .inr (by omega), HF.out.2.2.1, .inl ⟨rfl, HL2.out.1, HL2.out.2⟩, HZ.out.1.trans HF.out.1, kpO_t HZ.out.2.1 HF.out.2.1, HF.out.2.2.2⟩
                case measure => simp [intOf]; omega
          · have y5 : decide (t < to) = false := decide_eq_false hto
            have hS2 : Col (base ++ partL l fr to k (cntOf l k)) fb xs := by
              have hE : partL l fr to k (cntOf l k) = partL l fr to k j := partL_from (fun i h1 _ => hmon i h1 (by omega)) (by omega)
              rcases hS with ⟨h1, h2, h3⟩ | ⟨h1, h2, h3⟩
              · exact .inl ⟨h1, by rw [hE]; exact h2, by rw [hE, ← h2]; exact h3⟩
              · exact .inr ⟨h1, h2, h3⟩
            have HZ := Lib.hid (show _ ∧ _ ∧ _ ∧ _ ∧ _ from ⟨hKO, hKr, hS2, hR, hBr⟩)
            clear hKO hKr hS hS2 hR hBr
            gi_wp2
            exact ⟨HZ.out.1.from _, HZ.out.2.1, BrI.of HZ.out.2.2.2.1 (by rw [HSN.out]; exact HZ.out.2.2.1), HZ.out.2.2.2.2⟩
        · have y1 : decide ((j : Int) < (cntOf l k : Int)) = false := decide_eq_false (by omega)
          have y1n : decide (j < cntOf l k) = false := decide_eq_false hjN
          have hS2 : Col (base ++ partL l fr to k (cntOf l k)) fb xs := by
            have hE : partL l fr to k (cntOf l k) = partL l fr to k j := by
              rcases hj2 with h | h
              · refine (partL_from (j := cntOf l k) (m := j) (fun i _ hi => ?_) (by omega)).symm
                unfold inPart
                have := HJ.out.1 i (by omega)
                rw [decide_eq_false (by omega)]
              · rw [show j = cntOf l k by omega]
            rcases hS with ⟨h1, h2, h3⟩ | ⟨h1, h2, h3⟩
            · exact .inl ⟨h1, by rw [hE]; exact h2, by rw [hE, ← h2]; exact h3⟩
            · exact .inr ⟨h1, h2, h3⟩
          have HZ := Lib.hid (show _ ∧ _ ∧ _ ∧ _ ∧ _ from ⟨hKO, hKr, hS2, hR, hBr⟩)
          clear hKO hKr hS hS2 hR hBr
          gi_wp2
          exact ⟨HZ.out.1.from _, HZ.out.2.1, BrI.of HZ.out.2.2.2.1 (by rw [HSN.out]; exact HZ.out.2.2.1), HZ.out.2.2.2.2⟩
  case done =>
    rintro D xs W hD hxs ⟨⟨fb, ys, hI, hC⟩, hB⟩ hDf
    rename_i K hK
    rw [show ixs xs = List.range len from hxs, ← hlen] at hC
    obtain ⟨v, hv, hIv⟩ := hI.s2
    obtain ⟨av, cv, rfl⟩ := hIv.isSlice
    have c2 := blk_cell hv 0; have f2 := blk_free hv 0
    have c3 := blk_cell hI.s3 0
    simp at c2 f2 c3
    have hBB := hI.bb
    rcases hC with ⟨rfl, h2, h3⟩ | ⟨rfl, h2, h3⟩
    · have HI := Lib.hid (show _ ∧ _ ∧ _ from ⟨hIv, hB, hv⟩)
      have HC := Lib.hid (show _ ∧ _ from ⟨h2, h3⟩)
      clear hI hB hIv hv h2 h3
      refine hK _ _ ?_
      gi_wp2
      have hDn : D ≠ w.heap.size + 1 + 1 := by omega
      have hD2 : (W.setCell ⟨w.heap.size + 1 + 1, 0, none⟩ (.slice av ys.length cv)).heap[D]? = some (.deferred (some [])) := (Below.heap_setCell _ _ _ _ hDn).trans hDf
      have tp : ((W.setCell ⟨w.heap.size + 1 + 1, 0, none⟩ (.slice av ys.length cv)).putObj D (.deferred none)).cell? ⟨w.heap.size + 1 + 1, 0, none⟩ = some (.slice av ys.length cv) := blk_cell ((World.putObj_heap_other (Ne.symm hDn)).trans (one_setCell HI.out.2.2)) 0
      have hI2 := ((HI.out.1.setFar (p := w.heap.size + 1 + 1) (u := .slice av ys.length cv) (by omega)).grownNC (grownBy_putObj' _ D (.deferred none)) (fun r e => by cases e; exact ⟨_, hD2, rfl⟩)).mono (show w.heap.size ≤ X + 3 by omega)
      have hB2 := (HI.out.2.1.setCell (p := ⟨w.heap.size + 1 + 1, 0, none⟩) (show w.heap.size ≤ w.heap.size + 1 + 1 by omega) (.slice av ys.length cv)).trans (belowK_b (w := w) (Nat.le_refl _) _ D _ (.deferred none) (by omega) hD2 rfl rfl)
      refine ⟨by simp, .inl ⟨_, _, rfl, run_takeDeferred hD2, ?_⟩⟩
      exact ⟨.tuple #[.slice av ys.length cv, .int .i64 0], by simp [results, Try.results17, go_sem, tp], hB2, _, by rw [show barsE (allF l fr to (List.range l.length)) = 0 from if_pos HC.out.2], by rw [show barsR (allF l fr to (List.range l.length)) = ys from (if_pos HC.out.2).trans HC.out.1.symm]; exact hI2⟩
    · have HI := Lib.hid (show _ ∧ _ ∧ _ from ⟨hIv, hB, hv⟩)
      have HC := Lib.hid (show _ ∧ _ from ⟨h2, h3⟩)
      clear hI hB hIv hv h2 h3
      refine hK _ _ ?_
      gi_wp2
      have hDn : D ≠ w.heap.size + 1 + 1 := by omega
      have hD2 : (W.setCell ⟨w.heap.size + 1 + 1, 0, none⟩ (.slice none 0 0)).heap[D]? = some (.deferred (some [])) := (Below.heap_setCell _ _ _ _ hDn).trans hDf
      have tp : ((W.setCell ⟨w.heap.size + 1 + 1, 0, none⟩ (.slice none 0 0)).putObj D (.deferred none)).cell? ⟨w.heap.size + 1 + 1, 0, none⟩ = some (.slice none 0 0) := blk_cell ((World.putObj_heap_other (Ne.symm hDn)).trans (one_setCell HI.out.2.2)) 0
      have hB2 := (HI.out.2.1.setCell (p := ⟨w.heap.size + 1 + 1, 0, none⟩) (show w.heap.size ≤ w.heap.size + 1 + 1 by omega) (.slice none 0 0)).trans (belowK_b (w := w) (Nat.le_refl _) _ D _ (.deferred none) (by omega) hD2 rfl rfl)
      refine ⟨by simp, .inl ⟨_, _, rfl, run_takeDeferred hD2, ?_⟩⟩
      exact ⟨.tuple #[.slice none 0 0, .int .i64 2], by simp [results, Try.results17, go_sem, tp], hB2, _, by rw [show barsE (allF l fr to (List.range l.length)) = 2 from if_neg (by have := HC.out.2; omega)], by rw [show barsR (allF l fr to (List.range l.length)) = [] from if_neg (by have := HC.out.2; omega)]; exact Ints.nil _ _⟩
  case stop =>
    rintro D cc pre W hD _ ⟨hF, _⟩ _
    exact hF.elim
end Go.Proofs.Ytkgimglkiniofaa
