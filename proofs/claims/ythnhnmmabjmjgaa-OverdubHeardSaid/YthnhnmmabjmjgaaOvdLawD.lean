/- OverdubDivide (layer 44). -/
import Derived.Test.YthnhnmmabjmjgaaOvdLawA
import Derived.Test.YthnhnmmabjmjgaaOvdIs
namespace Go.Proofs.Ythnhnmmabjmjgaa
open Go.ChangeShapes Go.WideShapes Go.ChangeAt Go.RowKit Go.Shelf

theorem wpList_append_row_open {ops : Array Oper} {o : Oper} {a : Act} {Q : Exit → Act → World → Prop} {w : World} {rest : List Oper} (hw : Region.wanted o (yielded ops a.tmps) = true) (s x : Operand) (ho : o.op = .call { callee := .builtin .append, args := #[s, x], argTypes := #[38, 38] })
    (B : Nat) (v : Value) (l : List Int) (hs : a.eval s = v) (hown : Ints w B v l) (ax : Option Addr) (b off n c : Nat) (l2 : List Int) (hx : a.eval x = .slice ax n c) (hr : Row w ax b off n l2) (hnc : ax = none → c = 0)
    (hlen : l.length + n ≤ 1000000) (hB : B ≤ w.heap.size)
    (h : ∀ v' w', Ints w' B v' (l ++ l2) → Below B w w' → w.grownBy w' v.ownBlock → wpList Try.prog ops Q rest (a.put o.dst v') w') : wpList Try.prog ops Q (o :: rest) a w :=
  wpList_open hw fun _ hK => wp_append_row s x ho B v l hs hown ax b off n c l2 hx hr hnc hlen hB fun v' w' h1 h2 h3 => hK _ _ (h v' w' h1 h2 h3)
theorem cnt_bd {l : List Rt} (h : Recs l) (d p k : Int) : ∀ m, m ≤ l.length → (0 ≤ (cnt l d p k m).1 ∧ (cnt l d p k m).1 ≤ 1048576) ∧ (0 ≤ (cnt l d p k m).2.1 ∧ (cnt l d p k m).2.1 ≤ 1048576)
  | 0, _ => by unfold cnt; simp
  | m + 1, hm => by
    by_cases c : mat d p k (nthR l m)
    · rw [cnt_yes c]
      have := (h.2 m (by omega)).1
      unfold okR at this
      exact this.2.2.2
    · rw [cnt_no c]; exact cnt_bd h d p k m (by omega)
theorem at_bd (R : List Rt) (d p k : Int) : (0 ≤ (atV R d p k).1 ∧ (atV R d p k).1 ≤ 1048576) ∧ (0 ≤ (atV R d p k).2.1 ∧ (atV R d p k).2.1 ≤ 1048576) := by
  by_cases h : Recs R
  · by_cases h2 : argOk d p k
    · rw [atV_yes h h2]; exact cnt_bd h d p k _ (Nat.le_refl _)
    · rw [atV_bad h h2]; simp
  · rw [atV_no h]; simp
theorem hrdL_split (l : List Ht) (f : Int) {k n : Nat} (h : k ≤ n) : hrdL l f n = hrdL l f k ++ hrdL l (f + (k : Int)) (n - k) := by
  unfold hrdL
  obtain ⟨m, rfl⟩ : ∃ m, n = k + m := ⟨n - k, by omega⟩
  rw [List.range_add, List.map_append, List.map_map, Nat.add_sub_cancel_left]
  congr 1
  refine List.map_congr_left fun j _ => ?_
  show hrd l (f + ((k + j : Nat) : Int)) = hrd l (f + (k : Int) + (j : Int))
  congr 1; omega
theorem layF_at {l : List Ht} (ho : OrdS l) (f : Int) (n : Int) : ∀ i, i < (layF (runsL l f n)).length → (nthD (layF (runsL l f n)) i).2.2.1 ≤ 2199023255552 := fun i hi => by
  have := layF_runs ho.2 f n _ (nthD_mem hi)
  unfold LaidOk at this
  omega
set_option maxRecDepth 100000 in
set_option maxHeartbeats 8000000 in
theorem divide_walk (r : Sl) (R : List Rt) (s : Sl) (l : List Ht) (st n ct d kn : Int) (w : World) (hr : RsV w r R) (hs : HsV w s l) (b1 : 0 ≤ st ∧ st ≤ 4294967295) (b2 : 0 ≤ n ∧ n ≤ 65535) (b3 : 0 ≤ ct ∧ ct ≤ 65535) (b4 : 0 ≤ d ∧ d ≤ 255) (b5 : 0 ≤ kn ∧ kn ≤ 255) :
    Calls Try.prog 8 #[vS r, vS s, .int .u32 st, .int .u16 n, .int .u16 ct, .int .u8 d, .int .u8 kn] w fun e w' => e = .returned (.bool true) ∧ Below w.heap.size w w' := by
  have H0 := Lib.hid (show _ ∧ _ ∧ _ from ⟨Below.refl w.heap.size w, hs, hr⟩)
  clear hs hr
  obtain ⟨sa, sn, sc⟩ := s
  obtain ⟨ra, rn, rc⟩ := r
  dsimp only [vS]
  go_enter Try.func8, Try.ntmps8
  go_wp2_with fail
  refine (sane_any w).mono ?_
  rintro e W1 ⟨rfl, hb⟩
  have H1 := Lib.hid (show _ ∧ _ ∧ _ from ⟨below_after H0.out.1 hb H0.out.1.size, H0.out.2.1.grown hb, H0.out.2.2.grown hb⟩)
  clear H0
  clear hb
  by_cases q9 : 40 < rn
  · have z0 : decide ((rn : Int) > 40) = true := decide_eq_true (by omega)
    go_wp2
    exact bodyPost_ret (v := .bool true) (by simp [results, Try.results8, go_sem]) rfl ⟨rfl, H1.out.1⟩
  have z9 : decide ((rn : Int) > 40) = false := decide_eq_false (by omega)
  by_cases q0 : 40 < sn
  · have z0 : decide ((sn : Int) > 40) = true := decide_eq_true (by omega)
    go_wp2
    exact bodyPost_ret (v := .bool true) (by simp [results, Try.results8, go_sem]) rfl ⟨rfl, H1.out.1⟩
  have z0 : decide ((sn : Int) > 40) = false := decide_eq_false (by omega)
  by_cases q1 : 300 < n
  · have z1 : decide (n > 300) = true := decide_eq_true (by omega)
    go_wp2
    exact bodyPost_ret (v := .bool true) (by simp [results, Try.results8, go_sem]) rfl ⟨rfl, H1.out.1⟩
  have z1 : decide (n > 300) = false := decide_eq_false (by omega)
  by_cases q2 : OrdS l
  case neg =>
    go_wp2_with fail
    refine (rinorder_e (s := (sa, sn, sc)) false (decide_eq_false q2) W1 H1.out.2.1).mono ?_
    rintro e Wn2 ⟨rfl, hb⟩
    have Hn2 := Lib.hid (show _ ∧ _ ∧ _ from ⟨below_after H1.out.1 hb H1.out.1.size, H1.out.2.1.grown hb, H1.out.2.2.grown hb⟩)
    clear H1
    clear hb
    go_wp2
    exact bodyPost_ret (v := .bool true) (by simp [results, Try.results8, go_sem]) rfl ⟨rfl, Hn2.out.1⟩
  go_wp2_with fail
  refine (rinorder_e (s := (sa, sn, sc)) true (decide_eq_true q2) W1 H1.out.2.1).mono ?_
  rintro e W2 ⟨rfl, hb⟩
  have H2 := Lib.hid (show _ ∧ _ ∧ _ from ⟨below_after H1.out.1 hb H1.out.1.size, H1.out.2.1.grown hb, H1.out.2.2.grown hb⟩)
  clear H1
  clear hb
  clear z0 z1 z9

  go_wp2_with fail
  refine (at_s (ra, rn, rc) R _ _ _ W2 H2.out.2.2).mono ?_
  rintro e W3 ⟨rfl, hb⟩
  have H3 := Lib.hid (show _ ∧ _ ∧ _ from ⟨below_after H2.out.1 hb H2.out.1.size, H2.out.2.1.grown hb, H2.out.2.2.grown hb⟩)
  clear H2
  clear hb
  go_upto_region 6 with fail
  obtain ⟨N, rfl⟩ : ∃ N : Nat, n = N := ⟨n.toNat, by omega⟩
  have hbd := at_bd R (d % 16) st kn
  have g1 := fun h => againS_bad (r := R) (d := d % 16) (l := l) (st := st) (n := (N : Int)) (kn := kn) h
  have g2 := fun h h2 => againS_no (r := R) (d := d % 16) (l := l) (st := st) (n := (N : Int)) (kn := kn) h h2
  have g3 : (atV R (d % 16) st kn).2.2.2 = 0 → (atV R (d % 16) st kn).2.2.1 = true → againS R (d % 16) l st (N : Int) kn = (0, layF (runsL l (st - (atV R (d % 16) st kn).1 - (atV R (d % 16) st kn).2.1) (N : Int))) := fun h h2 => by
    rw [againS_yes h h2, layS_yes ⟨q2, by omega, by omega, hbd.1, hbd.2⟩]
  generalize atV R (d % 16) st kn = A at *
  obtain ⟨x0, x1, x2, xc⟩ := A
  dsimp only at hbd g1 g2 g3 ⊢
  have HG := Lib.hid (show _ ∧ _ ∧ _ from ⟨g1, g2, g3⟩)
  clear g1 g2 g3
  by_cases hc : xc = 0
  case neg =>
    go_wp2_with fail
    refine (again_e (r := (ra, rn, rc)) (s := (sa, sn, sc)) W3 (HG.out.1 hc) H3.out.2.2 H3.out.2.1).mono ?_
    rintro e Wp4 ⟨⟨a0, n0, c0⟩, rfl, hA, hb⟩
    have Hp4 := Lib.hid (show _ ∧ _ ∧ _ from ⟨below_after H3.out.1 hb H3.out.1.size, H3.out.2.1.grown hb, H3.out.2.2.grown hb⟩)
    clear H3
    clear hb
    obtain rfl : n0 = 0 := hA.len
    clear hA
    have zc : (xc == xc) = true := by simp
    have zd : (xc != 0) = true := by simpa using hc
    go_wp2
    exact bodyPost_ret (v := .bool true) (by simp [results, Try.results8, go_sem]) rfl ⟨rfl, Hp4.out.1⟩
  subst hc
  have ze : ((0 : Int) != 0) = false := by simp
  cases x2
  case false =>
    go_wp2_with fail
    refine (again_e (r := (ra, rn, rc)) (s := (sa, sn, sc)) W3 (HG.out.2.1 (by first | trivial | rfl) (by first | trivial | rfl)) H3.out.2.2 H3.out.2.1).mono ?_
    rintro e Wq4 ⟨⟨a0, n0, c0⟩, rfl, hA, hb⟩
    have Hq4 := Lib.hid (show _ ∧ _ ∧ _ from ⟨below_after H3.out.1 hb H3.out.1.size, H3.out.2.1.grown hb, H3.out.2.2.grown hb⟩)
    clear H3
    clear hb
    obtain rfl : n0 = 0 := hA.len
    clear hA
    go_wp2
    exact bodyPost_ret (v := .bool true) (by simp [results, Try.results8, go_sem]) rfl ⟨rfl, Hq4.out.1⟩
  obtain ⟨X, hX⟩ : ∃ X, X = layF (runsL l (st - x0 - x1) (N : Int)) := ⟨_, rfl⟩
  have hL0 : againS R (d % 16) l st (N : Int) kn = (0, X) := by rw [hX]; exact HG.out.2.2 (by first | trivial | rfl) (by first | trivial | rfl)
  have hL1 : layS l st (N : Int) x0 x1 = (0, X) := by rw [hX, layS_yes ⟨q2, by omega, by omega, hbd.1, hbd.2⟩]
  have HL := Lib.hid (show _ ∧ _ ∧ _ from ⟨hL0, hL1, hX⟩)
  have HQ := Lib.hid q2
  clear hL0 hL1 hX HG q2
  go_wp2_with fail
  refine (again_e (r := (ra, rn, rc)) (s := (sa, sn, sc)) W3 HL.out.1 H3.out.2.2 H3.out.2.1).mono ?_
  rintro e W4 ⟨⟨a0, n0, c0⟩, rfl, hA, hb⟩
  have H4 := Lib.hid (show _ ∧ _ ∧ _ ∧ _ from ⟨below_after H3.out.1 hb H3.out.1.size, H3.out.2.1.grown hb, H3.out.2.2.grown hb, hA⟩)
  clear H3
  clear hb
  clear hA
  go_wp2_with fail
  refine (lay_e (s := (sa, sn, sc)) W4 HL.out.2.1 H4.out.2.1).mono ?_
  rintro e W5 ⟨⟨a1, n1, c1⟩, rfl, hA, hb⟩
  have H5 := Lib.hid (show _ ∧ _ ∧ _ ∧ _ ∧ _ from ⟨below_after H4.out.1 hb H4.out.1.size, H4.out.2.1.grown hb, H4.out.2.2.1.grown hb, H4.out.2.2.2.grown hb, hA⟩)
  clear H4
  clear hb
  clear hA
  go_wp2_with fail
  refine (rsame_s (a1, n1, c1) (a0, n0, c0) _ _ true (decide_eq_true rfl) W5 H5.out.2.2.2.2 H5.out.2.2.2.1).mono ?_
  rintro e W6 ⟨rfl, hb⟩
  have H6 := Lib.hid (show _ ∧ _ ∧ _ ∧ _ ∧ _ from ⟨below_after H5.out.1 hb H5.out.1.size, H5.out.2.1.grown hb, H5.out.2.2.1.grown hb, H5.out.2.2.2.1.grown hb, H5.out.2.2.2.2.grown hb⟩)
  clear H5
  clear hb
  go_upto_region 15 with fail
  obtain ⟨K, hK, hKn⟩ : ∃ K : Nat, ct % ((N : Int) + 1) = (K : Int) ∧ K ≤ N := by
    have e1 := Int.emod_nonneg ct (show ((N : Int) + 1) ≠ 0 by omega)
    have e2 := Int.emod_lt_of_pos ct (show (0 : Int) < (N : Int) + 1 by omega)
    exact ⟨(ct % ((N : Int) + 1)).toNat, by omega, by omega⟩
  rw [hK]
  clear hK
  obtain ⟨Y, hY⟩ : ∃ Y, Y = layF (runsL l (st - x0 - x1) (K : Int)) := ⟨_, rfl⟩
  obtain ⟨Z, hZ⟩ : ∃ Z, Z = layF (runsL l (st - x0 - x1 + (K : Int)) ((N - K : Nat) : Int)) := ⟨_, rfl⟩
  have hL2 : layS l st (K : Int) x0 x1 = (0, Y) := by rw [hY, layS_yes ⟨HQ.out, by omega, by omega, hbd.1, hbd.2⟩]
  have hL3 : layS l (st + (K : Int)) ((N : Int) - (K : Int)) x0 x1 = (0, Z) := by
    rw [hZ, layS_yes ⟨HQ.out, by omega, by omega, hbd.1, hbd.2⟩, show st + (K : Int) - x0 - x1 = st - x0 - x1 + (K : Int) by omega, show (N : Int) - (K : Int) = ((N - K : Nat) : Int) by omega]
  have hX := HL.out.2.2
  have hE0 : padL (exG X) N = hrdL l (st - x0 - x1) N ∧ ExOk X (N : Int) ∧ ∀ i, i < X.length → (nthD X i).2.2.1 ≤ 2199023255552 := by
    rw [hX]; exact ⟨(exK_all HQ.out.2 _ _).pad, exOk_all HQ.out.2 _ _, layF_at HQ.out _ _⟩
  have hE1 : padL (exG Y) K = hrdL l (st - x0 - x1) K ∧ ExOk Y (K : Int) ∧ ∀ i, i < Y.length → (nthD Y i).2.2.1 ≤ 2199023255552 := by
    rw [hY]; exact ⟨(exK_all HQ.out.2 _ _).pad, exOk_all HQ.out.2 _ _, layF_at HQ.out _ _⟩
  have hE2 : padL (exG Z) (N - K) = hrdL l (st - x0 - x1 + (K : Int)) (N - K) ∧ ExOk Z ((N - K : Nat) : Int) ∧ ∀ i, i < Z.length → (nthD Z i).2.2.1 ≤ 2199023255552 := by
    rw [hZ]; exact ⟨(exK_all HQ.out.2 _ _).pad, exOk_all HQ.out.2 _ _, layF_at HQ.out _ _⟩
  have hspl := hrdL_split l (st - x0 - x1) hKn
  have hln := hrdL_len l (st - x0 - x1) N
  have hln1 := hrdL_len l (st - x0 - x1) K
  have hln2 := hrdL_len l (st - x0 - x1 + (K : Int)) (N - K)
  generalize hrdL l (st - x0 - x1) N = V0 at *
  generalize hrdL l (st - x0 - x1) K = V1 at *
  generalize hrdL l (st - x0 - x1 + (K : Int)) (N - K) = V2 at *
  have HS := Lib.hid (show _ ∧ _ ∧ _ ∧ _ from ⟨hspl, hln, hln1, hln2⟩)
  have HE := Lib.hid (show _ ∧ _ ∧ _ ∧ _ ∧ _ from ⟨hL2, hL3, hE0, hE1, hE2⟩)
  clear hY hZ hL2 hL3 hX hE0 hE1 hE2 hspl hln hln1 hln2
  go_wp2_with fail
  refine (lay_e (s := (sa, sn, sc)) W6 HE.out.1 H6.out.2.1).mono ?_
  rintro e W7 ⟨⟨a2, n2, c2⟩, rfl, hA, hb⟩
  have H7 := Lib.hid (show _ ∧ _ ∧ _ ∧ _ ∧ _ ∧ _ from ⟨below_after H6.out.1 hb H6.out.1.size, H6.out.2.1.grown hb, H6.out.2.2.1.grown hb, H6.out.2.2.2.1.grown hb, H6.out.2.2.2.2.grown hb, hA⟩)
  clear H6
  clear hb
  clear hA
  go_wp2_with fail
  refine (lay_e (s := (sa, sn, sc)) W7 HE.out.2.1 H7.out.2.1).mono ?_
  rintro e W8 ⟨⟨a3, n3, c3⟩, rfl, hA, hb⟩
  have H8 := Lib.hid (show _ ∧ _ ∧ _ ∧ _ ∧ _ ∧ _ ∧ _ from ⟨below_after H7.out.1 hb H7.out.1.size, H7.out.2.1.grown hb, H7.out.2.2.1.grown hb, H7.out.2.2.2.1.grown hb, H7.out.2.2.2.2.1.grown hb, H7.out.2.2.2.2.2.grown hb, hA⟩)
  clear H7
  clear hb
  clear hA
  go_wp2_with fail
  refine (expand_e (s := (a1, n1, c1)) N rfl _ HE.out.2.2.1.1 HE.out.2.2.1.2.1 HE.out.2.2.1.2.2 (by omega) W8 H8.out.2.2.2.2.1).mono ?_
  rintro e W9 ⟨⟨j0, m0, d0⟩, rfl, hA, hb⟩
  have H9 := Lib.hid (show _ ∧ _ ∧ _ ∧ _ ∧ _ ∧ _ ∧ _ ∧ _ from ⟨below_after H8.out.1 hb H8.out.1.size, H8.out.2.1.grown hb, H8.out.2.2.1.grown hb, H8.out.2.2.2.1.grown hb, H8.out.2.2.2.2.1.grown hb, H8.out.2.2.2.2.2.1.grown hb, H8.out.2.2.2.2.2.2.grown hb, hA⟩)
  clear H8
  clear hb
  clear hA
  go_wp2_with fail
  refine (expand_e (s := (a2, n2, c2)) K rfl _ HE.out.2.2.2.1.1 HE.out.2.2.2.1.2.1 HE.out.2.2.2.1.2.2 (by omega) W9 H9.out.2.2.2.2.2.1).mono ?_
  rintro e W10 ⟨⟨j1, m1, d1⟩, rfl, hA, hb⟩
  have H10 := Lib.hid (show _ ∧ _ ∧ _ ∧ _ ∧ _ ∧ _ ∧ _ ∧ _ ∧ _ from ⟨below_after H9.out.1 hb H9.out.1.size, H9.out.2.1.grown hb, H9.out.2.2.1.grown hb, H9.out.2.2.2.1.grown hb, H9.out.2.2.2.2.1.grown hb, H9.out.2.2.2.2.2.1.grown hb, H9.out.2.2.2.2.2.2.1.grown hb, H9.out.2.2.2.2.2.2.2.grown hb, hA⟩)
  clear H9
  clear hb
  clear hA
  go_wp2_with fail
  refine (expand_e (s := (a3, n3, c3)) (N - K) (by omega) _ HE.out.2.2.2.2.1 HE.out.2.2.2.2.2.1 HE.out.2.2.2.2.2.2 (by omega) W10 H10.out.2.2.2.2.2.2.1).mono ?_
  rintro e W11 ⟨⟨j2, m2, d2⟩, rfl, hA, hb⟩
  have H11 := Lib.hid (show _ ∧ _ ∧ _ ∧ _ ∧ _ ∧ _ ∧ _ ∧ _ ∧ _ ∧ _ from ⟨below_after H10.out.1 hb H10.out.1.size, H10.out.2.1.grown hb, H10.out.2.2.1.grown hb, H10.out.2.2.2.1.grown hb, H10.out.2.2.2.2.1.grown hb, H10.out.2.2.2.2.2.1.grown hb, H10.out.2.2.2.2.2.2.1.grown hb, H10.out.2.2.2.2.2.2.2.1.grown hb, H10.out.2.2.2.2.2.2.2.2.grown hb, hA⟩)
  clear H10
  clear hb
  clear hA
  go_upto_region 20 with fail
  obtain ⟨p1, hr1, hn1⟩ := H11.out.2.2.2.2.2.2.2.2.1.row
  obtain ⟨p2, hr2, hn2⟩ := H11.out.2.2.2.2.2.2.2.2.2.row
  dsimp only at hr1 hn1 hr2 hn2
  have hm1 : m1 ≤ 300 := by have := hr1.len; have := HS.out.2.2.1; omega
  have hm2 : m2 ≤ 300 := by have := hr2.len; have := HS.out.2.2.2; omega
  have hmm : V1.length ≤ 300 := by have := HS.out.2.2.1; omega
  have HR := Lib.hid (show _ ∧ _ ∧ _ ∧ _ from ⟨hr1, hn1, hr2, hn2⟩)
  clear hr1 hn1 hr2 hn2
  dsimp only [vS]
  go_wp2_with (first | (at_builtin; (refine wpList_append_row_open rfl (.tmp 194) (.tmp 195) rfl W11.heap.size _ _ rfl (Ints.empty W11) _ _ _ _ _ _ rfl (HR.out.1.below ((Below.refl _ _).alloc (Nat.le_refl _) _) (Nat.le_refl _)) HR.out.2.1 (by simp; omega) (by simp) ?_; intro v8 w8 hO8 hB8 _)) | (at_builtin; (refine wpList_append_row_open rfl (.tmp 196) (.tmp 197) rfl W11.heap.size _ _ rfl hO8 _ _ _ _ _ _ rfl (HR.out.2.2.1.below (((Below.refl _ _).alloc (Nat.le_refl _) _).trans hB8) (Nat.le_refl _)) HR.out.2.2.2 (by simp; omega) (by have := hB8.size; simp at this; omega) ?_; intro v9 w9 hO9 hB9 _; have hb := (((Below.refl _ _).alloc (Nat.le_refl _) _).trans hB8).trans hB9; rw [List.nil_append, ← HS.out.1] at hO9; obtain ⟨v10, b10, c10, e10, _, _, _⟩ := hO9.row; subst e10)))
  have H9 := Lib.hid (show _ ∧ _ ∧ _ ∧ _ ∧ _ ∧ _ ∧ _ ∧ _ ∧ _ ∧ _ ∧ _ from ⟨below_after H11.out.1 hb H11.out.1.size, H11.out.2.1.grown hb, H11.out.2.2.1.grown hb, H11.out.2.2.2.1.grown hb, H11.out.2.2.2.2.1.grown hb, H11.out.2.2.2.2.2.1.grown hb, H11.out.2.2.2.2.2.2.1.grown hb, H11.out.2.2.2.2.2.2.2.1.grown hb, H11.out.2.2.2.2.2.2.2.2.1.grown hb, H11.out.2.2.2.2.2.2.2.2.2.grown hb, (show IV w9 (v10, V0.length, c10) V0 from ⟨_, hO9⟩)⟩)
  clear H11
  clear hb hO8 hO9 hB8 hB9
  go_wp2_with fail
  refine (isame_yes (j0, m0, d0) (v10, V0.length, c10) V0 (by have := HS.out.2.1; omega) w9 H9.out.2.2.2.2.2.2.2.1 H9.out.2.2.2.2.2.2.2.2.2.2).mono ?_
  rintro e W12 ⟨rfl, hb⟩
  have H12 := Lib.hid (show _ ∧ _ ∧ _ ∧ _ ∧ _ ∧ _ ∧ _ ∧ _ ∧ _ ∧ _ ∧ _ from ⟨below_after H9.out.1 hb H9.out.1.size, H9.out.2.1.grown hb, H9.out.2.2.1.grown hb, H9.out.2.2.2.1.grown hb, H9.out.2.2.2.2.1.grown hb, H9.out.2.2.2.2.2.1.grown hb, H9.out.2.2.2.2.2.2.1.grown hb, H9.out.2.2.2.2.2.2.2.1.grown hb, H9.out.2.2.2.2.2.2.2.2.1.grown hb, H9.out.2.2.2.2.2.2.2.2.2.1.grown hb, H9.out.2.2.2.2.2.2.2.2.2.2.grown hb⟩)
  clear H9
  clear hb
  go_wp2
  exact bodyPost_ret (v := .bool true) (by simp [results, Try.results8, go_sem]) rfl ⟨rfl, H12.out.1⟩
end Go.Proofs.Ythnhnmmabjmjgaa
