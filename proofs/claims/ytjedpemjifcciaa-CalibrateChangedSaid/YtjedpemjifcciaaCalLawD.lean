/- CalibrateChanged (layer 42). -/
import Derived.Test.YtjedpemjifcciaaCalLawC
import Derived.Test.YtjedpemjifcciaaSQ
namespace Go.Proofs.Ytjedpemjifcciaa
open Go.ChangeShapes Go.WideShapes Go.ChangeAt Go.RowKit Go.Sort Go.Shelf

theorem stepY_swap (l : List Rt) (bef aft d : Int) (x : List Yt) (s : Int × Int) : stepY l bef aft d x s = stepY l aft bef d x s := by
  by_cases h : cnt l d s.1 bef l.length = cnt l d s.1 aft l.length
  · rw [stepY_no h, stepY_no h.symm]
  · rw [stepY_yes h, stepY_yes fun g => h g.symm]
theorem chTo_swap (l : List Rt) (bef aft : Int) : ∀ k, chTo l bef aft k = chTo l aft bef k
  | 0 => rfl
  | k + 1 => by
    show (strs l k).foldl (stepY l bef aft k) (chTo l bef aft k) = (strs l k).foldl (stepY l aft bef k) (chTo l aft bef k)
    rw [chTo_swap l bef aft k]
    congr 1
    funext x s
    exact stepY_swap l bef aft k x s
theorem chgL_swap (l : List Rt) (bef aft : Int) : chgL l bef aft = chgL l aft bef := by
  by_cases h : Recs l ∧ tOk bef ∧ tOk aft
  · rw [chgL_ok h.1 h.2.1 h.2.2, chgL_ok h.1 h.2.2 h.2.1, chTo_swap]
  · rw [chgL_no h, chgL_no fun g => h ⟨g.1, g.2.2, g.2.1⟩]
theorem chgC_swap (l : List Rt) (bef aft : Int) : chgC l bef aft = chgC l aft bef := by
  by_cases hR : Recs l
  · by_cases h : tOk bef ∧ tOk aft
    · rw [chgC_ok hR h.1 h.2, chgC_ok hR h.2 h.1]
    · rw [chgC_arg hR h, chgC_arg hR fun g => h ⟨g.2, g.1⟩]
  · rw [chgC_no hR, chgC_no hR]
theorem chgC_zero {l : List Rt} {bef aft : Int} (h : chgC l bef aft = 0) : Recs l ∧ tOk bef ∧ tOk aft := by
  by_cases hR : Recs l
  · by_cases g : tOk bef ∧ tOk aft
    · exact ⟨hR, g⟩
    · rw [chgC_arg hR g] at h; cases h
  · rw [chgC_no hR] at h; exact absurd h (chk_ne hR)
def MemTo (x : List Yt) (d p : Int) (n : Nat) : Prop := ∃ j, j < n ∧ inS d p (nthY x j)
theorem MemTo.succ {x : List Yt} {d p : Int} {n : Nat} : MemTo x d p (n + 1) ↔ MemTo x d p n ∨ inS d p (nthY x n) := by
  constructor
  · rintro ⟨j, h1, h2⟩
    by_cases e : j = n
    · subst e; exact .inr h2
    · exact .inl ⟨j, by omega, h2⟩
  · rintro (⟨j, h1, h2⟩ | h)
    · exact ⟨j, by omega, h2⟩
    · exact ⟨n, by omega, h⟩
theorem nthY_mem {x : List Yt} {j : Nat} (h : j < x.length) : nthY x j ∈ x := by
  unfold nthY
  rw [List.getD_eq_getElem?_getD, List.getElem?_eq_getElem h]
  exact List.getElem_mem h
theorem memTo_all {x : List Yt} {d p : Int} : MemTo x d p x.length ↔ memS x d p := by
  constructor
  · rintro ⟨j, h1, h2⟩; exact ⟨_, nthY_mem h1, h2⟩
  · rintro ⟨s, hs, h⟩
    obtain ⟨j, hj, rfl⟩ := List.mem_iff_getElem.1 hs
    refine ⟨j, hj, ?_⟩
    unfold nthY
    rw [List.getD_eq_getElem?_getD, List.getElem?_eq_getElem hj]
    exact h
theorem canon_at {x : List Yt} (h : Canon x) {j : Nat} (hj : j < x.length) : okS (nthY x j) ∧ (0 < j → spanR (nthY x (j - 1)) (nthY x j)) := by
  refine ⟨h.1 _ (nthY_mem hj), fun h0 => ?_⟩
  have := (List.pairwise_iff_getElem.1 h.2) (j - 1) j (by omega) hj (by omega)
  unfold nthY
  rw [List.getD_eq_getElem?_getD, List.getD_eq_getElem?_getD, List.getElem?_eq_getElem hj, List.getElem?_eq_getElem (show j - 1 < x.length by omega)]
  exact this
theorem mt_no {A B M : Prop} (hs : A ↔ B ∨ M) (hB : false = true ↔ B) (hn : ¬ M) : false = true ↔ A :=
  ⟨fun h => (by cases h), fun h => (hs.1 h).elim hB.2 fun g => (hn g).elim⟩
theorem mt_yes {A B M : Prop} (hs : A ↔ B ∨ M) (hM : M) : true = true ↔ A := ⟨fun _ => hs.2 (.inr hM), fun _ => rfl⟩
theorem qsO_lit (w : World) (B : Nat) (d p : Int) (hB : B ≤ w.heap.size) : QsO (w.alloc (.cells #[.int .i64 d, .int .i64 p] 41)) B (.slice (some ⟨w.heap.size, 0, none⟩) 1 1) [(d, p)] :=
  ⟨rfl, .inr ⟨w.heap.size, 1, _, rfl, hB, heap_alloc_new w _, Nat.le_refl _, by simp [maxLen], rfl, rfl⟩⟩
theorem argOk_swap {d p bef aft : Int} (h2 : tOk aft) (h : argOk d p bef) : argOk d p aft := ⟨h.1, h.2.1, h2⟩
set_option maxRecDepth 100000 in
set_option maxHeartbeats 16000000 in
theorem changedLaw_walk (a : Option Addr) (n cap b off : Nat) (l : List Rt) (d p bef aft : Int) (w : World) (h : Rs w a n b off l) (hn : n ≤ 9223372036854775807) :
    Calls Try.prog 6 #[.slice a n cap, .int .i64 d, .int .i64 p, .int .i64 bef, .int .i64 aft] w fun e w' => e = .returned (.bool true) ∧ Below w.heap.size w w' := by
  have HM := Lib.hid h
  clear h
  go_enter Try.func6, Try.ntmps6
  go_wp2_with fail
  refine (sane_any w).mono ?_
  rintro e W1 ⟨rfl, hb1⟩
  have H1 := Lib.hid hb1
  clear hb1
  by_cases h3 : 300 < n
  · have z : decide (300 < (n : Int)) = true := decide_eq_true (by omega)
    go_wp2
    exact bodyPost_ret (v := .bool true) (by simp [results, Try.results6, go_sem]) rfl ⟨rfl, H1.out⟩
  have z : decide (300 < (n : Int)) = false := decide_eq_false (by omega)
  go_wp2_with fail
  clear z
  refine (changed_any a n cap b off l bef aft W1 (HM.out.grown H1.out) hn).mono ?_
  rintro e W2 ⟨v, rfl, hO, hb⟩
  have H2 := Lib.hid (show _ ∧ _ from ⟨below_after H1.out hb H1.out.size, hO.mono H1.out.size⟩)
  clear hb hO H1
  go_wp2_with fail
  refine (changed_any a n cap b off l aft bef W2 (HM.out.grown H2.out.1) hn).mono ?_
  rintro e W3 ⟨v2, rfl, hO, hb⟩
  rw [← chgL_swap] at hO
  rw [← chgC_swap]
  have H3 := Lib.hid (show _ ∧ _ ∧ _ from ⟨below_after H2.out.1 hb H2.out.1.size, H2.out.2.below hb (Nat.le_refl _), hO⟩)
  clear hb hO H2
  obtain ⟨xa, xb, xc, rfl, hX, -⟩ := H3.out.2.1.s
  obtain ⟨ya, yb, yc, rfl, hY, -⟩ := H3.out.2.2.s
  have hlen := chgL_len l bef aft
  have HX := Lib.hid (show _ ∧ _ from ⟨hX, hY⟩)
  have HL := Lib.hid (show (chgL l bef aft).length = (chgL l bef aft).length from rfl)
  clear hX hY
  generalize hc : chgC l bef aft = ck
  have HC := Lib.hid hc
  clear hc
  have zc : (ck == ck) = true := beq_self_eq_true ck
  have zc' : (ck != ck) = false := by simp
  obtain ⟨m, hm⟩ : ∃ m, m = (chgL l bef aft).length := ⟨_, rfl⟩
  have HMl := Lib.hid hm
  rw [← hm] at hlen HX ⊢
  clear hm HL
  go_wp2_with fail
  refine (rspans_any xa m xc xb 0 _ ya m yc yb 0 _ W3 HX.out.1 HX.out.2 (by omega) (by omega)).mono ?_
  rintro e W4 ⟨rfl, hb⟩
  rw [decide_eq_true rfl]
  have H4 := Lib.hid (show _ ∧ _ from ⟨below_after H3.out.1 hb H3.out.1.size, HX.out.1.grown hb⟩)
  clear hb zc zc'
  by_cases h0 : ck = 0
  case neg =>
    have e0 : m = 0 := by rw [HMl.out, chg_err (by rw [HC.out]; exact h0)]; rfl
    subst e0
    have zc : (ck == 0) = false := by simpa using h0
    have zc' : (ck != 0) = true := by simpa using h0
    clear h0
    go_wp2
    exact bodyPost_ret (v := .bool true) (by simp [results, Try.results6, go_sem]) rfl ⟨rfl, H4.out.1⟩
  subst h0
  obtain ⟨hR, ht1, ht2⟩ := chgC_zero HC.out
  have hXX : ∃ xo, Ys W4 xa m xb xo (chTo l bef aft 16) ∧ (chTo l bef aft 16).length = m := by
    have e := chgL_ok hR ht1 ht2
    have h2 := H4.out.2
    have h3 := HMl.out
    rw [e] at h2 h3
    exact ⟨0, h2, h3.symm⟩
  obtain ⟨xo, hXX⟩ := hXX
  have HS := Lib.hid (chTo_spec hR.2 bef aft)
  have HR := Lib.hid (show _ ∧ _ ∧ _ from ⟨hR, ht1, ht2⟩)
  have H5 := Lib.hid (show _ ∧ _ ∧ _ ∧ _ from ⟨H4.out.1, hXX.1, hXX.2, HM.out.grown H4.out.1⟩)
  clear hXX hR ht1 ht2 HX H3 H4 HM HMl HC
  generalize (chTo l bef aft 16) = X at *
  go_wp2
  go_loopw [68] (fun i wr => ∃ t : Nat, t ≤ m ∧ i = .int .i64 t ∧ Below W4.heap.size W4 wr) (fun i _ => m - (intOf i).toNat)
  case atStart => exact ⟨0, Nat.zero_le _, rfl, Below.refl _ _⟩
  case round =>
    obtain ⟨t, ht, rfl, hb⟩ := hrel
    by_cases hlt : t < m
    case neg =>
      obtain rfl : t = m := by omega
      have hkk : decide ((t : Int) < t) = false := by simp
      have HB := Lib.hid hb
      clear hb
      go_wp2
      clear hkk
      have HQ := Lib.hid (show QsO (wr.alloc (.cells #[.int .i64 d, .int .i64 p] 41)) W4.heap.size (.slice (some ⟨wr.heap.size, 0, none⟩) 1 1) [(d, p)] ∧ Below W4.heap.size W4 (wr.alloc (.cells #[.int .i64 d, .int .i64 p] 41)) from ⟨qsO_lit wr _ d p HB.out.size, HB.out.alloc HB.out.size _⟩)
      generalize wr.alloc (.cells #[.int .i64 d, .int .i64 p] 41) = W5 at *
      generalize wr.heap.size = q5 at *
      go_loopw [17, 140] (fun s i wr => ∃ (k : Nat) (qa : Option Addr) (qn qc : Nat) (A : List Qt), k ≤ t ∧ i = .int .i64 k ∧ s = .slice qa qn qc ∧ QsO wr W4.heap.size (.slice qa qn qc) A ∧ A.length ≤ 1 + 4 * k ∧ Below W4.heap.size W4 wr) (fun _ i _ => t - (intOf i).toNat)
      case atStart => exact ⟨0, _, _, _, _, Nat.zero_le _, rfl, rfl, HQ.out.1, by simp, HQ.out.2⟩
      case round =>
        clear HQ HB
        obtain ⟨k, qa, qn, qc, A, hk, rfl, rfl, hQ, hA, hb⟩ := hrel
        have HQ := Lib.hid (show _ ∧ _ from ⟨hQ, hb⟩)
        clear hQ hb
        by_cases hkt : k < t
        case neg =>
          obtain rfl : k = t := by omega
          have hkk : decide ((k : Int) < k) = false := by simp
          obtain ⟨qa', qb, qc', eq, hQs, -⟩ := HQ.out.1.s
          cases eq
          have HW := Lib.hid (show _ ∧ _ from ⟨hQs, HQ.out.2⟩)
          clear hQs HQ
          generalize hAl : A.length = an at *
          clear hAl
          go_wp2
          clear hkk
          obtain ⟨qo, hQo⟩ : ∃ qo, Qs wr qa an qb qo A := ⟨0, HW.out.1⟩
          have HZ := Lib.hid (show _ ∧ _ from ⟨hQo, HW.out.2⟩)
          clear hQo HW
          obtain ⟨WQ, hWQ⟩ : ∃ x, x = wr := ⟨_, rfl⟩
          subst hWQ
          obtain ⟨T, hT⟩ : ∃ x, x = k := ⟨_, rfl⟩
          subst hT
          go_loopw [175] (fun i wz => ∃ j : Nat, j ≤ an ∧ i = .int .i64 j ∧ Below WQ.heap.size WQ wz) (fun i _ => an - (intOf i).toNat)
          case atStart => exact ⟨0, Nat.zero_le _, rfl, Below.refl _ _⟩
          case round =>
            obtain ⟨j, hj, rfl, hb⟩ := hrel
            by_cases hja : j < an
            case neg =>
              obtain rfl : j = an := by omega
              have hkk : decide ((j : Int) < j) = false := by simp
              have HE := Lib.hid (below_after H5.out.1 (HZ.out.2.trans (hb.mono HZ.out.2.size)) H5.out.1.size)
              clear hb
              go_wp2
              exact bodyPost_ret (v := .bool true) (by simp [results, Try.results6, go_sem]) rfl ⟨rfl, HE.out⟩
            obtain ⟨rfl, hbw⟩ := HZ.out.1.2.1 (by omega)
            obtain ⟨c0, c1⟩ := (HZ.out.1.grown hb).2.2 j hja
            generalize nthQ A j = x at *
            obtain ⟨q0, q1⟩ := x
            dsimp only at c0 c1
            have hjI : (j : Int) < an := by omega
            go_upto_region 29 with fail
            clear c0 c1
            have HB := Lib.hid (show (wr.alloc (.cells #[.int .i64 q0, .int .i64 q1] 41)).heap[wr.heap.size]? = some (.cells #[.int .i64 q0, .int .i64 q1] 41 (0, 0)) ∧ Below WQ.heap.size WQ (wr.alloc (.cells #[.int .i64 q0, .int .i64 q1] 41)) from ⟨blk_new _ _, hb.alloc hb.size _⟩)
            clear hb
            generalize wr.alloc (.cells #[.int .i64 q0, .int .i64 q1] 41) = W6 at *
            generalize wr.heap.size = q6 at *
            have c0 := blk_cell HB.out.1 0; have c1 := blk_cell HB.out.1 1
            simp at c0 c1
            have hR6 := H5.out.2.2.2.grown (HZ.out.2.trans (HB.out.2.mono HZ.out.2.size))
            go_wp2_with fail
            clear c0 c1
            refine (at_any a n cap b off l q0 q1 bef W6 hR6 hn).mono ?_
            rintro e W7 ⟨rfl, hb⟩
            have HB7 := Lib.hid (show _ ∧ _ ∧ _ from ⟨blk_below HB.out.1 hb (Array.getElem?_eq_some_iff.1 HB.out.1).1, below_after HB.out.2 hb HB.out.2.size, hR6.grown hb⟩)
            clear hb hR6 HB
            by_cases ha : argOk q0 q1 bef
            case neg =>
              rw [atV_bad HR.out.1 ha]
              dsimp only [vA]
              have c0 := blk_cell HB7.out.1 0; have c1 := blk_cell HB7.out.1 1
              simp at c0 c1
              go_wp2_with fail
              clear c0 c1
              refine (at_any a n cap b off l q0 q1 aft W7 HB7.out.2.2 hn).mono ?_
              rintro e W8 ⟨rfl, hb⟩
              have HB8 := Lib.hid (below_after HB7.out.2.1 hb HB7.out.2.1.size)
              clear hb
              rw [atV_bad HR.out.1 fun g => ha (argOk_swap HR.out.2.1 g)]
              dsimp only [vA]
              clear ha
              go_wp2
              go_roundw
              case rel => exact ⟨j + 1, by omega, by go_num, HB8.out⟩
              case measure => simp [intOf] <;> omega
            rw [atV_yes HR.out.1 ha]
            obtain ⟨y, hy⟩ : ∃ y, y = cnt l q0 q1 bef l.length := ⟨_, rfl⟩
            rw [← hy]
            have HA := Lib.hid (show _ ∧ _ from ⟨hy, ha⟩)
            clear hy ha
            obtain ⟨y0, y1, y2⟩ := y
            dsimp only [vA]
            have c0 := blk_cell HB7.out.1 0; have c1 := blk_cell HB7.out.1 1
            simp at c0 c1
            go_wp2_with fail
            clear c0 c1
            refine (at_any a n cap b off l q0 q1 aft W7 HB7.out.2.2 hn).mono ?_
            rintro e W8 ⟨rfl, hb⟩
            have HB8 := Lib.hid (show _ ∧ _ from ⟨blk_below HB7.out.1 hb (Array.getElem?_eq_some_iff.1 HB7.out.1).1, below_after HB7.out.2.1 hb HB7.out.2.1.size⟩)
            clear hb HB7
            rw [atV_yes HR.out.1 (argOk_swap HR.out.2.2 HA.out.2)]
            obtain ⟨x, hx⟩ : ∃ x, x = cnt l q0 q1 aft l.length := ⟨_, rfl⟩
            rw [← hx]
            have HD := Lib.hid (show memS X q0 q1 ↔ (y0, y1, y2) ≠ x from by
              rw [HA.out.1, hx]
              exact HS.out.2 q0 q1 HA.out.2.1.1 HA.out.2.1.2 HA.out.2.2.1.1 (by have := HA.out.2.2.1.2; omega))
            clear hx HA
            obtain ⟨x0, x1, x2⟩ := x
            dsimp only [vA]
            go_wp2
            have h4 := HB8.out.1
            have hq8 := (Array.getElem?_eq_some_iff.1 h4).1
            clear h4
            go_loopw [30, 210] (fun s i wz => ∃ (u : Nat) (sb : Bool), u ≤ T ∧ s = .bool sb ∧ i = .int .i64 u ∧ (sb = true ↔ MemTo X q0 q1 u) ∧ Below W8.heap.size W8 wz) (fun _ i _ => T - (intOf i).toNat)
            case atStart => exact ⟨0, _, Nat.zero_le _, rfl, rfl, ⟨fun h => (by cases h), fun ⟨j, h, _⟩ => (by omega)⟩, Below.refl _ _⟩
            case round =>
              obtain ⟨u, sb, hu, rfl, rfl, hsb, hb⟩ := hrel
              by_cases huT : u < T
              case neg =>
                obtain rfl : u = T := by omega
                have HB9 := Lib.hid (below_after HB8.out.2 hb HB8.out.2.size)
                have hsm : sb = true ↔ (y0, y1, y2) ≠ (x0, x1, x2) := by
                  have e := H5.out.2.2.1
                  rw [hsb, ← HD.out, ← memTo_all, e]
                have hkk : decide ((u : Int) < u) = false := by simp
                clear hsb hb
                by_cases g0 : y0 = x0
                case neg =>
                  obtain rfl : sb = true := hsm.2 fun e => g0 (by cases e; rfl)
                  have e0 : (y0 == x0) = false := by simpa using g0
                  have e0' : (y0 != x0) = true := by simpa using g0
                  clear hsm g0
                  go_wp2
                  go_roundw
                  case rel => exact ⟨j + 1, by omega, by go_num, HB9.out⟩
                  case measure => simp [intOf] <;> omega
                subst g0
                have e0 : (y0 == y0) = true := by simp
                have e0' : (y0 != y0) = false := by simp
                by_cases g1 : y1 = x1
                case neg =>
                  obtain rfl : sb = true := hsm.2 fun e => g1 (by cases e; rfl)
                  have e1 : (y1 == x1) = false := by simpa using g1
                  have e1' : (y1 != x1) = true := by simpa using g1
                  clear hsm g1
                  go_wp2
                  go_roundw
                  case rel => exact ⟨j + 1, by omega, by go_num, HB9.out⟩
                  case measure => simp [intOf] <;> omega
                subst g1
                have e1 : (y1 == y1) = true := by simp
                have e1' : (y1 != y1) = false := by simp
                by_cases g2 : y2 = x2
                case neg =>
                  obtain rfl : sb = true := hsm.2 fun e => g2 (by cases e; rfl)
                  have e2 : (y2 == x2) = false := by simpa using g2
                  have e2' : (y2 != x2) = true := by simpa using g2
                  clear hsm g2
                  go_wp2
                  go_roundw
                  case rel => exact ⟨j + 1, by omega, by go_num, HB9.out⟩
                  case measure => simp [intOf] <;> omega
                subst g2
                obtain rfl : sb = false := by
                  cases e : sb
                  · rfl
                  · exact absurd rfl (hsm.1 e)
                have e2 : (y2 == y2) = true := by simp
                have e2' : (y2 != y2) = false := by simp
                clear hsm
                go_wp2
                go_roundw
                case rel => exact ⟨j + 1, by omega, by go_num, HB9.out⟩
                case measure => simp [intOf] <;> omega
              obtain ⟨rfl, hbw2⟩ := H5.out.2.1.2.1 (by omega)
              obtain ⟨c0, c1, c2⟩ := (H5.out.2.1.grown (HZ.out.2.trans ((HB8.out.2.trans (hb.mono HB8.out.2.size)).mono HZ.out.2.size))).2.2 u huT
              have hs := MemTo.succ (x := X) (d := q0) (p := q1) (n := u)
              generalize nthY X u = x at *
              obtain ⟨v0, v1, v2⟩ := x
              dsimp only at c0 c1 c2
              have HX := Lib.hid (show _ ∧ _ from ⟨hs, hsb⟩)
              clear hs hsb
              have huI : (u : Int) < T := by omega
              have hq9 := blk_below HB8.out.1 hb hq8
              go_upto_region 38 with fail
              clear c0 c1 c2
              have HB9 := Lib.hid (show (wr.alloc (.cells #[.int .i64 v0, .int .i64 v1, .int .i64 v2] 40)).heap[wr.heap.size]? = some (.cells #[.int .i64 v0, .int .i64 v1, .int .i64 v2] 40 (0, 0)) ∧ (wr.alloc (.cells #[.int .i64 v0, .int .i64 v1, .int .i64 v2] 40)).heap[q6]? = some (.cells #[.int .i64 q0, .int .i64 q1] 41 (0, 0)) ∧ Below W8.heap.size W8 (wr.alloc (.cells #[.int .i64 v0, .int .i64 v1, .int .i64 v2] 40)) from ⟨blk_new _ _, blk_alloc hq9 _, hb.alloc hb.size _⟩)
              have hqr : q6 ≠ wr.heap.size := by have := hb.size; omega
              clear hb hq9
              generalize wr.alloc (.cells #[.int .i64 v0, .int .i64 v1, .int .i64 v2] 40) = W10 at *
              generalize wr.heap.size = q10 at *
              have c0 := blk_cell HB9.out.1 0; have c1 := blk_cell HB9.out.1 1; have c2 := blk_cell HB9.out.1 2
              have g0 := blk_cell HB9.out.2.1 0; have g1 := blk_cell HB9.out.2.1 1
              simp at c0 c1 c2 g0 g1
              cases sb
              case true =>
                have N := Lib.hid (show (true = true ↔ MemTo X q0 q1 (u + 1)) from ⟨fun _ => HX.out.1.2 (.inl (HX.out.2.1 rfl)), fun _ => rfl⟩)
                go_wp2
                go_roundw
                case rel => exact ⟨u + 1, _, by omega, rfl, by go_num, N.out, HB9.out.2.2⟩
                case measure => simp [intOf] <;> omega
              by_cases p0 : v0 = q0
              case neg =>
                have z0 : (v0 == q0) = false := by simpa using p0
                have z0' : decide (v0 = q0) = false := decide_eq_false p0
                have N := Lib.hid (mt_no HX.out.1 HX.out.2 (fun h => p0 h.1))
                go_wp2
                go_roundw
                case rel => exact ⟨u + 1, _, by omega, rfl, by go_num, N.out, HB9.out.2.2⟩
                case measure => simp [intOf] <;> omega
              have z0 : (v0 == q0) = true := by simpa using p0
              by_cases p1 : v1 ≤ q1
              case neg =>
                have z1 : decide (v1 ≤ q1) = false := decide_eq_false p1
                have N := Lib.hid (mt_no HX.out.1 HX.out.2 (fun h => p1 h.2.1))
                go_wp2
                go_roundw
                case rel => exact ⟨u + 1, _, by omega, rfl, by go_num, N.out, HB9.out.2.2⟩
                case measure => simp [intOf] <;> omega
              have z1 : decide (v1 ≤ q1) = true := decide_eq_true p1
              by_cases p2 : q1 < v2
              case neg =>
                have z2 : decide (q1 < v2) = false := decide_eq_false p2
                have N := Lib.hid (mt_no HX.out.1 HX.out.2 (fun h => p2 h.2.2))
                go_wp2
                go_roundw
                case rel => exact ⟨u + 1, _, by omega, rfl, by go_num, N.out, HB9.out.2.2⟩
                case measure => simp [intOf] <;> omega
              have z2 : decide (q1 < v2) = true := decide_eq_true p2
              have N := Lib.hid (mt_yes HX.out.1 ⟨p0, p1, p2⟩)
              go_wp2
              go_roundw
              case rel => exact ⟨u + 1, _, by omega, rfl, by go_num, N.out, HB9.out.2.2⟩
              case measure => simp [intOf] <;> omega
        have hcan := (canon_at HS.out.1 (j := k) (by rw [H5.out.2.2.1]; exact hkt)).1
        obtain ⟨rfl, hbw⟩ := H5.out.2.1.2.1 (by omega)
        obtain ⟨c0, c1, c2⟩ := (H5.out.2.1.grown HQ.out.2).2.2 k hkt
        generalize nthY X k = x at *
        obtain ⟨v0, v1, v2⟩ := x
        dsimp only at c0 c1 c2
        obtain ⟨⟨o1, o2⟩, o3, o4, o5⟩ : (0 ≤ v0 ∧ v0 ≤ 15) ∧ 0 ≤ v1 ∧ v1 < v2 ∧ v2 ≤ 1099511627777 := hcan
        have hltI : (k : Int) < t := by omega
        go_upto_region 23 with fail
        clear c0 c1 c2
        have HB := Lib.hid (show (wr.alloc (.cells #[.int .i64 v0, .int .i64 v1, .int .i64 v2] 40)).heap[wr.heap.size]? = some (.cells #[.int .i64 v0, .int .i64 v1, .int .i64 v2] 40 (0, 0)) ∧ Below W4.heap.size W4 (wr.alloc (.cells #[.int .i64 v0, .int .i64 v1, .int .i64 v2] 40)) ∧ QsO (wr.alloc (.cells #[.int .i64 v0, .int .i64 v1, .int .i64 v2] 40)) W4.heap.size (.slice qa qn qc) A from ⟨blk_new _ _, HQ.out.2.alloc HQ.out.2.size _, HQ.out.1.alloc _⟩)
        clear HQ
        generalize wr.alloc (.cells #[.int .i64 v0, .int .i64 v1, .int .i64 v2] 40) = W6 at *
        generalize wr.heap.size = q6 at *
        by_cases h20 : k < 20
        case neg =>
          have z : decide ((k : Int) < 20) = false := decide_eq_false (by omega)
          go_wp2
          go_roundw
          case rel => exact ⟨k + 1, _, _, _, A, by omega, by go_num, rfl, HB.out.2.2, by omega, HB.out.2.1⟩
          case measure => simp [intOf] <;> omega
        have z : decide ((k : Int) < 20) = true := decide_eq_true (by omega)
        have c0 := blk_cell HB.out.1 0; have c1 := blk_cell HB.out.1 1; have c2 := blk_cell HB.out.1 2
        simp at c0 c1 c2
        go_wp2_with (at_builtin; refine wpList_append_Qs rfl (.tmp 147) (.tmp 170) rfl W4.heap.size _ A rfl (HB.out.2.2.alloc _) _ W6.heap.size 0 4 4 [(v0, v1), (v0, v1 - 1), (v0, v2 - 1), (v0, v2)] rfl (Qs.lit _ _ _ 4 rfl (fun i hi => by rcases (show i = 0 ∨ i = 1 ∨ i = 2 ∨ i = 3 by omega) with rfl | rfl | rfl | rfl <;> exact ⟨rfl, rfl⟩)) (fun h => by cases h) (by omega) (by have := HB.out.2.1.size; simp; omega) ?_; intro v' w' h1 h2 _)
        have HN := Lib.hid (show _ ∧ _ from ⟨h1, (HB.out.2.1.alloc HB.out.2.1.size _).trans h2⟩)
        obtain ⟨na, nb, nc, rfl, -⟩ := h1.s
        clear h1 h2 HB c0 c1 c2
        go_wp2
        go_roundw
        case rel => exact ⟨k + 1, _, _, _, _, by omega, by go_num, rfl, HN.out.1, by simp; omega, HN.out.2⟩
        case measure => simp [intOf] <;> omega
    have hcan := canon_at HS.out.1 (j := t) (by rw [H5.out.2.2.1]; exact hlt)
    obtain ⟨rfl, hbw⟩ := H5.out.2.1.2.1 (by omega)
    obtain ⟨c0, c1, c2⟩ := (H5.out.2.1.grown hb).2.2 t hlt
    have hprev : 0 < t → wr.cell? ⟨xb, xo + (t - 1) * 3, none⟩ = some (.int .i64 (nthY X (t - 1)).1) ∧ wr.cell? ⟨xb, xo + (t - 1) * 3 + 1, none⟩ = some (.int .i64 (nthY X (t - 1)).2.1) ∧ wr.cell? ⟨xb, xo + (t - 1) * 3 + 2, none⟩ = some (.int .i64 (nthY X (t - 1)).2.2) := fun h0 => (H5.out.2.1.grown hb).2.2 (t - 1) (by omega)
    generalize nthY X t = x at *
    obtain ⟨v0, v1, v2⟩ := x
    generalize nthY X (t - 1) = u at *
    obtain ⟨u0, u1, u2⟩ := u
    dsimp only at c0 c1 c2 hprev
    have HP := Lib.hid (show _ ∧ _ from ⟨hcan.2, hprev⟩)
    obtain ⟨⟨o1, o2⟩, o3, o4, o5⟩ : (0 ≤ v0 ∧ v0 ≤ 15) ∧ 0 ≤ v1 ∧ v1 < v2 ∧ v2 ≤ 1099511627777 := hcan.1
    clear hcan hprev
    have hltI : (t : Int) < m := by omega
    have z1 : decide (v0 < 0) = false := decide_eq_false (by omega)
    have z2 : decide (15 < v0) = false := decide_eq_false (by omega)
    have z3 : decide (v1 < 0) = false := decide_eq_false (by omega)
    have z4 : decide (v2 ≤ v1) = false := decide_eq_false (by omega)
    have z5 : decide (1099511627777 < v2) = false := decide_eq_false (by omega)
    go_upto_region 14 with fail
    clear c0 c1 c2
    have HB := Lib.hid (show (wr.alloc (.cells #[.int .i64 v0, .int .i64 v1, .int .i64 v2] 40)).heap[wr.heap.size]? = some (.cells #[.int .i64 v0, .int .i64 v1, .int .i64 v2] 40 (0, 0)) ∧ Below W4.heap.size W4 (wr.alloc (.cells #[.int .i64 v0, .int .i64 v1, .int .i64 v2] 40)) ∧ Below wr.heap.size wr (wr.alloc (.cells #[.int .i64 v0, .int .i64 v1, .int .i64 v2] 40)) from ⟨blk_new _ _, hb.alloc hb.size _, (Below.refl _ _).alloc (Nat.le_refl _) _⟩)
    have hxq : xb ≠ wr.heap.size := by have := hb.size; omega
    have hlw : xb < wr.heap.size := by have := hb.size; omega
    clear hb
    have hpc := HP.out.2
    rcases Nat.eq_zero_or_pos t with rfl | h0
    · clear hpc
      generalize wr.alloc (.cells #[.int .i64 v0, .int .i64 v1, .int .i64 v2] 40) = W6 at *
      generalize wr.heap.size = q6 at *
      have c0 := blk_cell HB.out.1 0; have c1 := blk_cell HB.out.1 1; have c2 := blk_cell HB.out.1 2
      simp at c0 c1 c2
      go_upto_region 16 with fail
      replace c0 := cell_regrown c0; replace c1 := cell_regrown c1; replace c2 := cell_regrown c2
      refine wp_region_quiet_below (by kernel_rfl) (by kernel_rfl) ?_
      repeat (go_big_quiet_step ((fail)))
      refine wpQuiet_nil ?_
      intro WQ hq'
      have hq := of_regrown hq'
      clear hq'
      go_wp2
      go_roundw
      case rel => exact ⟨1, by omega, by go_num, below_after HB.out.2.1 hq HB.out.2.1.size⟩
      case measure => simp [intOf] <;> omega
    obtain ⟨p0, p1, p2⟩ := hpc h0
    have hsp : u0 < v0 ∨ (u0 = v0 ∧ u2 < v1) := HP.out.1 h0
    have p0' := cell_alloc_keep p0 (.cells #[.int .i64 v0, .int .i64 v1, .int .i64 v2] 40)
    have p1' := cell_alloc_keep p1 (.cells #[.int .i64 v0, .int .i64 v1, .int .i64 v2] 40)
    have p2' := cell_alloc_keep p2 (.cells #[.int .i64 v0, .int .i64 v1, .int .i64 v2] 40)
    clear p0 p1 p2
    generalize wr.alloc (.cells #[.int .i64 v0, .int .i64 v1, .int .i64 v2] 40) = W6 at *
    generalize wr.heap.size = q6 at *
    have c0 := blk_cell HB.out.1 0; have c1 := blk_cell HB.out.1 1; have c2 := blk_cell HB.out.1 2
    simp at c0 c1 c2
    obtain ⟨t', rfl⟩ : ∃ t', t = t' + 1 := ⟨t - 1, by omega⟩
    rw [show t' + 1 - 1 = t' by omega] at p0' p1' p2'
    have hz : decide ((0 : Int) < (t' : Int) + 1) = true := decide_eq_true (by omega)
    have hz1 : ((t' : Int) + 1 - 1) = t' := by omega
    have htm : t' < m := by omega
    rcases hsp with s1 | ⟨s1, s2⟩
    · have y1 : decide (v0 < u0) = false := decide_eq_false (by omega)
      have y2 : (u0 == v0) = false := by simp; omega
      go_upto_region 16 with fail
      replace c0 := cell_regrown c0; replace c1 := cell_regrown c1; replace c2 := cell_regrown c2
      replace p0' := cell_regrown p0'; replace p1' := cell_regrown p1'; replace p2' := cell_regrown p2'
      refine wp_region_quiet_below (by kernel_rfl) (by kernel_rfl) ?_
      repeat (go_big_quiet_step ((fail)))
      refine wpQuiet_nil ?_
      intro WQ hq'
      have hq := of_regrown hq'
      clear hq'
      go_wp2
      go_roundw
      case rel => exact ⟨t' + 1 + 1, by omega, by go_num, below_after HB.out.2.1 hq HB.out.2.1.size⟩
      case measure => simp [intOf] <;> omega
    subst s1
    have y1 : decide (u0 < u0) = false := decide_eq_false (by omega)
    have y2 : (u0 == u0) = true := by simp
    have y3 : decide (v1 ≤ u2) = false := decide_eq_false (by omega)
    go_upto_region 16 with fail
    replace c0 := cell_regrown c0; replace c1 := cell_regrown c1; replace c2 := cell_regrown c2
    replace p0' := cell_regrown p0'; replace p1' := cell_regrown p1'; replace p2' := cell_regrown p2'
    refine wp_region_quiet_below (by kernel_rfl) (by kernel_rfl) ?_
    repeat (go_big_quiet_step ((fail)))
    refine wpQuiet_nil ?_
    intro WQ hq'
    have hq := of_regrown hq'
    clear hq'
    go_wp2
    go_roundw
    case rel => exact ⟨t' + 1 + 1, by omega, by go_num, below_after HB.out.2.1 hq HB.out.2.1.size⟩
    case measure => simp [intOf] <;> omega
end Go.Proofs.Ytjedpemjifcciaa
