/- OverdubHeard (layer 44). -/
import Derived.Test.YthnhnmmabjmjgaaOvdLawD
namespace Go.Proofs.Ythnhnmmabjmjgaa
open Go.ChangeShapes Go.WideShapes Go.ChangeAt Go.RowKit Go.Shelf

set_option maxRecDepth 100000 in
set_option maxHeartbeats 8000000 in
theorem heard_walk (s : Sl) (l : List Ht) (st n i o : Int) (w : World) (hs : HsV w s l) :
    Calls Try.prog 6 #[vS s, .int .i64 st, .int .i64 n, .int .i64 i, .int .i64 o] w fun e w' => e = .returned (.bool true) ∧ Below w.heap.size w w' := by
  have H0 := Lib.hid (show _ ∧ _ from ⟨Below.refl w.heap.size w, hs⟩)
  clear hs
  obtain ⟨sa, sn, sc⟩ := s
  dsimp only [vS]
  go_enter Try.func6, Try.ntmps6
  go_wp2_with fail
  refine (sane_any w).mono ?_
  rintro e W1 ⟨rfl, hb⟩
  have H1 := Lib.hid (show _ ∧ _ from ⟨below_after H0.out.1 hb H0.out.1.size, H0.out.2.grown hb⟩)
  clear H0
  clear hb
  by_cases q0 : 40 < sn
  · have z0 : decide ((sn : Int) > 40) = true := decide_eq_true (by omega)
    go_wp2
    exact bodyPost_ret (v := .bool true) (by simp [results, Try.results6, go_sem]) rfl ⟨rfl, H1.out.1⟩
  have z0 : decide ((sn : Int) > 40) = false := decide_eq_false (by omega)
  by_cases q1 : 300 < n
  · have z1 : decide (n > 300) = true := decide_eq_true (by omega)
    go_wp2
    exact bodyPost_ret (v := .bool true) (by simp [results, Try.results6, go_sem]) rfl ⟨rfl, H1.out.1⟩
  have z1 : decide (n > 300) = false := decide_eq_false (by omega)
  by_cases qa : ArgOk l st n i o
  case neg =>
    go_wp2_with fail
    refine (lay_e (s := (sa, sn, sc)) W1 (layS_no qa) H1.out.2).mono ?_
    rintro e Wp2 ⟨⟨a0, n0, c0⟩, rfl, hA, hb⟩
    have Hp2 := Lib.hid (show _ ∧ _ from ⟨below_after H1.out.1 hb H1.out.1.size, H1.out.2.grown hb⟩)
    clear H1
    clear hb
    obtain rfl : n0 = 0 := hA.len
    clear hA
    by_cases q2 : OrdS l
    case neg =>
      go_wp2_with fail
      refine (rinorder_e (s := (sa, sn, sc)) false (decide_eq_false q2) Wp2 Hp2.out.2).mono ?_
      rintro e Wq3 ⟨rfl, hb⟩
      have Hq3 := Lib.hid (show _ ∧ _ from ⟨below_after Hp2.out.1 hb Hp2.out.1.size, Hp2.out.2.grown hb⟩)
      clear Hp2
      clear hb
      go_wp2
      exact bodyPost_ret (v := .bool true) (by simp [results, Try.results6, go_sem]) rfl ⟨rfl, Hq3.out.1⟩
    go_wp2_with fail
    refine (rinorder_e (s := (sa, sn, sc)) true (decide_eq_true q2) Wp2 Hp2.out.2).mono ?_
    rintro e Wp3 ⟨rfl, hb⟩
    have Hp3 := Lib.hid (show _ ∧ _ from ⟨below_after Hp2.out.1 hb Hp2.out.1.size, Hp2.out.2.grown hb⟩)
    clear Hp2
    clear hb
    clear z0 z1
    by_cases p0 : st < 0
    · have zz : decide (st < 0) = true := decide_eq_true p0
      go_wp2
      exact bodyPost_ret (v := .bool true) (by simp [results, Try.results6, go_sem]) rfl ⟨rfl, Hp3.out.1⟩
    have zp0 : decide (st < 0) = false := decide_eq_false p0
    by_cases p1 : st > 1099511627776
    · have zz : decide (st > 1099511627776) = true := decide_eq_true p1
      go_wp2
      exact bodyPost_ret (v := .bool true) (by simp [results, Try.results6, go_sem]) rfl ⟨rfl, Hp3.out.1⟩
    have zp1 : decide (st > 1099511627776) = false := decide_eq_false p1
    by_cases p2 : n < 0
    · have zz : decide (n < 0) = true := decide_eq_true p2
      go_wp2
      exact bodyPost_ret (v := .bool true) (by simp [results, Try.results6, go_sem]) rfl ⟨rfl, Hp3.out.1⟩
    have zp2 : decide (n < 0) = false := decide_eq_false p2
    by_cases p3 : i < 0
    · have zz : decide (i < 0) = true := decide_eq_true p3
      go_wp2
      exact bodyPost_ret (v := .bool true) (by simp [results, Try.results6, go_sem]) rfl ⟨rfl, Hp3.out.1⟩
    have zp3 : decide (i < 0) = false := decide_eq_false p3
    by_cases p4 : i > 1048576
    · have zz : decide (i > 1048576) = true := decide_eq_true p4
      go_wp2
      exact bodyPost_ret (v := .bool true) (by simp [results, Try.results6, go_sem]) rfl ⟨rfl, Hp3.out.1⟩
    have zp4 : decide (i > 1048576) = false := decide_eq_false p4
    by_cases p5 : o < 0
    · have zz : decide (o < 0) = true := decide_eq_true p5
      go_wp2
      exact bodyPost_ret (v := .bool true) (by simp [results, Try.results6, go_sem]) rfl ⟨rfl, Hp3.out.1⟩
    have zp5 : decide (o < 0) = false := decide_eq_false p5
    have p6 : o > 1048576 := by
      refine Decidable.byContradiction fun h => qa ⟨q2, ⟨by omega, by omega⟩, ⟨by omega, by omega⟩, ⟨by omega, by omega⟩, ⟨by omega, by omega⟩⟩
    have zz : decide (o > 1048576) = true := decide_eq_true p6
    go_wp2
    exact bodyPost_ret (v := .bool true) (by simp [results, Try.results6, go_sem]) rfl ⟨rfl, Hp3.out.1⟩
  clear z0 z1
  have qb := qa.2
  obtain ⟨N, rfl⟩ : ∃ N : Nat, n = N := ⟨n.toNat, by omega⟩
  obtain ⟨X, hX⟩ : ∃ X, X = layF (runsL l (st - i - o) (N : Int)) := ⟨_, rfl⟩
  have hE : padL (exG X) N = hrdL l (st - i - o) N ∧ ExOk X (N : Int) ∧ ∀ i, i < X.length → (nthD X i).2.2.1 ≤ 2199023255552 := by
    rw [hX]; exact ⟨(exK_all qa.1.2 _ _).pad, exOk_all qa.1.2 _ _, layF_at qa.1 _ _⟩
  have hC : ChOk X ∧ ∀ b ∈ X, LaidOk (N : Int) X.length b := by rw [hX]; exact ⟨chOk_all qa.1.2 _ _, layF_runs qa.1.2 _ _⟩
  have hL : layS l st (N : Int) i o = (0, X) := by rw [hX, layS_yes qa]
  have HE := Lib.hid (show _ ∧ _ ∧ _ ∧ _ from ⟨hL, hE, hC, qa.1.2⟩)
  clear hL hE hC hX qa
  go_wp2_with fail
  refine (lay_e (s := (sa, sn, sc)) W1 HE.out.1 H1.out.2).mono ?_
  rintro e W2 ⟨⟨a0, n0, c0⟩, rfl, hA, hb⟩
  have H2 := Lib.hid (show _ ∧ _ ∧ _ from ⟨below_after H1.out.1 hb H1.out.1.size, H1.out.2.grown hb, hA⟩)
  clear H1
  clear hb
  clear hA
  go_wp2_with fail
  refine (expand_e (s := (a0, n0, c0)) N rfl _ HE.out.2.1.1 HE.out.2.1.2.1 HE.out.2.1.2.2 (by omega) W2 H2.out.2.2).mono ?_
  rintro e W3 ⟨⟨j0, m0, d0⟩, rfl, hA, hb⟩
  have H3 := Lib.hid (show _ ∧ _ ∧ _ ∧ _ from ⟨below_after H2.out.1 hb H2.out.1.size, H2.out.2.1.grown hb, H2.out.2.2.grown hb, hA⟩)
  clear H2
  clear hb
  have HM0 := Lib.hid (show N = m0 from (by have := hA.len; rw [hrdL_len] at this; exact this))
  obtain rfl := HM0.out
  clear hA HM0
  have hi := H3.out.2.2.2
  obtain ⟨p, hr, -⟩ := hi.row
  clear hi
  obtain ⟨xb, xo, hD, hD2⟩ := H3.out.2.2.1
  obtain ⟨sb, so, hH, hH2, hH3⟩ := H3.out.2.1
  dsimp only at hr hD hD2 hH hH2 hH3
  have HR := Lib.hid (show _ ∧ _ ∧ _ from ⟨hr, hD, hH⟩)
  have HZ := Lib.hid (show _ ∧ _ from ⟨hD.1, hH.1⟩)
  clear hr hD hH
  dsimp only [vS]
  go_wp2
  go_loopw [95] (fun i wr => ∃ k : Nat, k ≤ N ∧ i = .int .i64 k ∧ Below W3.heap.size W3 wr) (fun i _ => N - (intOf i).toNat)
  case atStart => exact ⟨0, Nat.zero_le _, rfl, Below.refl _ _⟩
  case round =>
    obtain ⟨k, hk, rfl, hb⟩ := hrel
    have HK := Lib.hid hb; clear hb
    by_cases hlt : k < N
    case neg =>
      go_wp2
      go_loopw [148] (fun i wr => ∃ k : Nat, k ≤ n0 ∧ i = .int .i64 k ∧ Below W3.heap.size W3 wr) (fun i _ => n0 - (intOf i).toNat)
      case atStart => exact ⟨0, Nat.zero_le _, rfl, HK.out⟩
      case round =>
        obtain ⟨g, hg, rfl, hb⟩ := hrel
        have HG := Lib.hid hb; clear hb
        by_cases hlg : g < n0
        case neg =>
          go_wp2
          exact bodyPost_ret (v := .bool true) (by simp [results, Try.results6, go_sem]) rfl ⟨rfl, below_after H3.out.1 HG.out H3.out.1.size⟩
        obtain ⟨rfl, hbw⟩ := HR.out.2.1.2.1 (by omega)
        have hb0 := HG.out.size
        have hn0 := HZ.out.1
        have hlx : g < X.length := by omega
        obtain ⟨c0, c1, c2, c3⟩ := (HR.out.2.1.grown HG.out).2.2 g hlg
        have hyl := HE.out.2.2.1.2 _ (nthD_mem hlx)
        have hy0 : g = 0 → (nthD X g).2.2.2 = 0 := fun e => by subst e; exact HE.out.2.2.1.1.1 hlx
        have hyc : ∀ j, g = j + 1 → ¬ goesOn (nthD X j) (nthD X g) ∧ (nthD X g).2.2.2 = passD (nthD X j) (nthD X g) := fun j e => by subst e; exact HE.out.2.2.1.1.2 j hlx
        have HC := Lib.hid hyc
        clear hyc
        generalize hyy : nthD X g = y at *
        have HYY := Lib.hid hyy
        clear hyy
        obtain ⟨y0, y1, y2, y3⟩ := y
        unfold LaidOk at hyl
        dsimp only at hyl hy0 c0 c1 c2 c3
        obtain ⟨W2, hW2⟩ : ∃ W2, W2 = wr.alloc (.cells #[.int .i64 y0, .int .i64 y1, .int .i64 y2, .int .i64 y3] 52) := ⟨_, rfl⟩
        have hb2 : Below wr.heap.size wr W2 := by rw [hW2]; exact (Below.refl _ _).alloc (Nat.le_refl _) _
        have hx2 : W2.heap[wr.heap.size]? = some (.cells #[.int .i64 y0, .int .i64 y1, .int .i64 y2, .int .i64 y3] 52 (0, 0)) := by rw [hW2]; exact blk_new _ _
        have H2 := Lib.hid (show _ ∧ _ from ⟨below_after HG.out hb2 hb0, hx2⟩)
        have d0 := blk_cell hx2 0; have d1 := blk_cell hx2 1; have d2 := blk_cell hx2 2; have d3 := blk_cell hx2 3
        have hs2 := hb2.size
        simp at d0 d1 d2 d3
        clear hb2 hx2
        go_upto_region 27 with fail
        rw [← hW2]
        clear hW2 c0 c1 c2 c3
        by_cases g0 : g = 0
        case pos =>
          have e3 := hy0 g0
          subst e3
          subst g0
          go_wp2
          go_roundw
          case rel => exact ⟨1, by omega, by go_num, H2.out.1⟩
          case measure => simp [intOf]; omega
        obtain ⟨v, rfl⟩ : ∃ v, g = v + 1 := ⟨g - 1, by omega⟩
        have hlp : v < X.length := by omega
        obtain ⟨c0, c1, c2, c3⟩ := (HR.out.2.1.grown H2.out.1).2.2 v (by omega)
        have hpl := HE.out.2.2.1.2 _ (nthD_mem hlp)
        have hcc := HC.out v rfl
        generalize nthD X v = x at *
        obtain ⟨x0, x1, x2, x3⟩ := x
        unfold LaidOk at hpl
        unfold goesOn passD at hcc
        dsimp only at hpl hcc c0 c1 c2 c3
        obtain ⟨W3, hW3⟩ : ∃ W3, W3 = W2.alloc (.cells #[.int .i64 x0, .int .i64 x1, .int .i64 x2, .int .i64 x3] 52) := ⟨_, rfl⟩
        have hb3 : Below W2.heap.size W2 W3 := by rw [hW3]; exact (Below.refl _ _).alloc (Nat.le_refl _) _
        have hx3 : W3.heap[W2.heap.size]? = some (.cells #[.int .i64 x0, .int .i64 x1, .int .i64 x2, .int .i64 x3] 52 (0, 0)) := by rw [hW3]; exact blk_new _ _
        have hy3 := blk_below H2.out.2 hb3 (Array.getElem?_eq_some_iff.1 H2.out.2).1
        have H3 := Lib.hid (below_after H2.out.1 hb3 H2.out.1.size)
        have b0 := blk_cell hx3 0; have b1 := blk_cell hx3 1; have b2 := blk_cell hx3 2; have b3 := blk_cell hx3 3
        have k0 := blk_cell hy3 0; have k1 := blk_cell hy3 1; have k2 := blk_cell hy3 2; have k3 := blk_cell hy3 3
        simp at b0 b1 b2 b3 k0 k1 k2 k3
        clear hb3 hx3 hy3 HC HYY hy0
        have zk : ((v : Int) + 1 == 0) = false := by simp; omega
        go_upto_region 31 with fail
        rw [← hW3]
        clear hW3 c0 c1 c2 c3 d0 d1 d2 d3
        have a9 : (x0 + x1 == y0) = false ∨ ((x0 + x1 == y0) = true ∧ (x2 + x1 == y2) = false) := by
          by_cases a1 : x0 + x1 = y0
          · refine .inr ⟨by simpa using a1, ?_⟩
            simp only [beq_eq_false_iff_ne]
            exact fun a2 => hcc.1 ⟨a1.symm, a2.symm⟩
          · exact .inl (by simpa using a1)
        by_cases a3 : y2 < x2 + x1
        · have e3 := hcc.2
          rw [if_pos a3] at e3
          have a4 : decide (y2 < x2 + x1) = true := decide_eq_true a3
          subst e3
          have a5 : (x3 + 1 != x3 + 1) = false := by simp
          clear hcc
          rcases a9 with a9 | ⟨a9, a8⟩
          · go_wp2
            go_roundw
            case rel => exact ⟨v + 1 + 1, by omega, by go_num, H3.out⟩
            case measure => simp [intOf]; omega
          · go_wp2
            go_roundw
            case rel => exact ⟨v + 1 + 1, by omega, by go_num, H3.out⟩
            case measure => simp [intOf]; omega
        · have e3 := hcc.2
          rw [if_neg a3] at e3
          have a4 : decide (y2 < x2 + x1) = false := decide_eq_false a3
          have a5 : (y3 != x3) = false := by simp [e3]
          clear hcc e3
          rcases a9 with a9 | ⟨a9, a8⟩
          · go_wp2
            go_roundw
            case rel => exact ⟨v + 1 + 1, by omega, by go_num, H3.out⟩
            case measure => simp [intOf]; omega
          · go_wp2
            go_roundw
            case rel => exact ⟨v + 1 + 1, by omega, by go_num, H3.out⟩
            case measure => simp [intOf]; omega
    have t0 := (HR.out.1.below HK.out (Nat.le_refl _)).cel k hlt
    have ea := HR.out.1.adr (by omega)
    subst ea
    have HT := Lib.hid (show (hrdL l (st - i - o) N).getD k 0 = hrd l (st + (k : Int) - i - o) from by
      unfold hrdL
      rw [List.getD_eq_getElem?_getD, List.getElem?_map, List.getElem?_range hlt]
      show hrd l (st - i - o + (k : Int)) = _
      congr 1; omega)
    generalize (hrdL l (st - i - o) N).getD k 0 = t at *
    rw [Nat.zero_add] at t0
    go_wp2
    clear t0
    have hh : -4194304 ≤ st + (k : Int) - i - o ∧ st + (k : Int) - i - o ≤ 2199023255552 := by omega
    generalize st + (k : Int) - i - o = h at *
    go_loopw [18, 109] (fun v jv wr => ∃ j : Nat, j ≤ sn ∧ jv = .int .i64 j ∧ v = .int .i64 (hrdTo l h j) ∧ Below W3.heap.size W3 wr) (fun _ jv _ => sn - (intOf jv).toNat)
    case atStart => exact ⟨0, Nat.zero_le _, rfl, rfl, HK.out⟩
    case round =>
      obtain ⟨j, hj, rfl, rfl, hb⟩ := hrel
      have HJ := Lib.hid hb; clear hb
      by_cases hlj : j < sn
      case neg =>
        have E := Lib.hid (show t = hrdTo l h j from by rw [HT.out]; unfold hrd; rw [HZ.out.2, show sn = j by omega])
        generalize hrdTo l h j = u at *
        obtain rfl := E.out
        clear E
        have z : (t != t) = false := by simp
        go_wp2
        go_roundw
        case rel => exact ⟨k + 1, by omega, by go_num, HJ.out⟩
        case measure => simp [intOf]; omega
      obtain ⟨rfl, hbw⟩ := HR.out.2.2.2.1 (by omega)
      obtain ⟨c0, c1, c2, c3, c4⟩ := (HR.out.2.2.grown HJ.out).2.2 j hlj
      have hb0 := HJ.out.size
      have hok := HE.out.2.2.2 j (by rw [HZ.out.2]; exact hlj)
      have hei := endH_in (l := l) (k := j) (fun q hq => HE.out.2.2.2 q (by rw [HZ.out.2]; omega))
      have hyes : hearsH h (nthH l j) → hrdTo l h (j + 1) = (nthH l j).2.2.1 + h - (nthH l j).1 := fun q => if_pos q
      have hno : ¬ hearsH h (nthH l j) → hrdTo l h (j + 1) = hrdTo l h j := fun q => if_neg q
      generalize nthH l j = x at *
      obtain ⟨x0, x1, x2, x3, x4⟩ := x
      unfold OkH at hok
      generalize endH l j = en at *
      dsimp only at hok hyes c0 c1 c2 c3 c4
      generalize hrdTo l h j = u at *
      have HY := Lib.hid (show _ ∧ _ from ⟨hyes, hno⟩)
      clear hyes hno
      have hx : 0 ≤ x0 ∧ x0 ≤ 1099511627776 ∧ 1 ≤ x1 ∧ x1 ≤ 1099511627776 ∧ 0 ≤ x2 ∧ x2 ≤ 1099511627776 := by omega
      clear hok hei
      obtain ⟨W2, hW2⟩ : ∃ W2, W2 = wr.alloc (.cells #[.int .i64 x0, .int .i64 x1, .int .i64 x2, .bool x3, .bool x4] 50) := ⟨_, rfl⟩
      have hb2 : Below wr.heap.size wr W2 := by rw [hW2]; exact (Below.refl _ _).alloc (Nat.le_refl _) _
      have hx2 : W2.heap[wr.heap.size]? = some (.cells #[.int .i64 x0, .int .i64 x1, .int .i64 x2, .bool x3, .bool x4] 50 (0, 0)) := by rw [hW2]; exact blk_new _ _
      have hB2 := below_after HJ.out hb2 hb0
      have H2 := Lib.hid hB2
      have d0 := blk_cell hx2 0; have d1 := blk_cell hx2 1; have d2 := blk_cell hx2 2; have d3 := blk_cell hx2 3; have d4 := blk_cell hx2 4
      simp at d0 d1 d2 d3 d4
      clear hb2 hx2 hB2
      go_upto_region 18 with fail
      rw [← hW2]
      clear hW2 c0 c1 c2 c3 c4
      by_cases q : hearsH h (x0, x1, x2, x3, x4)
      case pos =>
        have HN := Lib.hid (HY.out.1 q)
        obtain ⟨g1, g2, g3, g4⟩ := q
        dsimp only at g1 g2 g3 g4
        subst g1
        subst g2
        have y1 : decide (h ≥ x0) = true := decide_eq_true g3
        have y2 : decide (h - x0 < x1) = true := decide_eq_true (by omega)
        go_wp2
        go_roundw
        case rel => exact ⟨j + 1, by omega, by go_num, by rw [HN.out], H2.out⟩
        case measure => simp [intOf]; omega

      have HN := Lib.hid (HY.out.2 q)
      by_cases e1 : x0 ≤ h
      case neg =>
        have y1 : decide (h ≥ x0) = false := decide_eq_false e1
        go_wp2
        go_roundw
        case rel => exact ⟨j + 1, by omega, by go_num, by rw [HN.out], H2.out⟩
        case measure => simp [intOf]; omega

      have y1 : decide (h ≥ x0) = true := decide_eq_true e1
      by_cases e2 : h - x0 < x1
      case neg =>
        have y2 : decide (h - x0 < x1) = false := decide_eq_false e2
        go_wp2
        go_roundw
        case rel => exact ⟨j + 1, by omega, by go_num, by rw [HN.out], H2.out⟩
        case measure => simp [intOf]; omega

      have y2 : decide (h - x0 < x1) = true := decide_eq_true e2
      cases x3
      case false =>
        go_wp2
        go_roundw
        case rel => exact ⟨j + 1, by omega, by go_num, by rw [HN.out], H2.out⟩
        case measure => simp [intOf]; omega

      cases x4
      case false =>
        go_wp2
        go_roundw
        case rel => exact ⟨j + 1, by omega, by go_num, by rw [HN.out], H2.out⟩
        case measure => simp [intOf]; omega

      exact absurd ⟨rfl, rfl, e1, by show h < x0 + x1; omega⟩ q
end Go.Proofs.Ythnhnmmabjmjgaa
