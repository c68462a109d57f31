/- OverdubSpec, OverdubAgainSpec (layer 44). -/
import Derived.Test.YthnhnmmabjmjgaaOvdLawA
import Derived.Test.YthnhnmmabjmjgaaRLay
namespace Go.Proofs.Ythnhnmmabjmjgaa
open Go.ChangeShapes Go.WideShapes Go.ChangeAt Go.RowKit Go.Shelf

theorem rlay_e {s : Sl} {l : List Ht} {st k i o c : Int} {L : List Dt} (w : World) (hL : layS l st k i o = (c, L)) (h : HsV w s l) :
    Calls Try.prog 12 #[vS s, .int .i64 st, .int .i64 k, .int .i64 i, .int .i64 o] w fun e w' => ∃ s' : Sl, e = .returned (.tuple #[vS s', .int .i64 c]) ∧ DsV w' s' L ∧ Below w.heap.size w w' := by
  obtain ⟨b, off, h1, h2, h3⟩ := h
  refine (rlay_any s.1 s.2.1 s.2.2 b off l st k i o w h1 (by omega)).mono ?_
  rw [hL]
  rintro e w' ⟨v, rfl, hO, hb⟩
  obtain ⟨s', rfl, hs⟩ := hO.v
  exact ⟨s', rfl, hs, hb⟩
set_option maxRecDepth 100000 in
set_option maxHeartbeats 4000000 in
theorem ragain_any (ra : Option Addr) (rn rc rb ro : Nat) (R : List Rt) (d : Int) (a : Option Addr) (n cap b off : Nat) (l : List Ht) (st k kn : Int) (w : World) (hR : Rs w ra rn rb ro R) (hrn : rn ≤ 9223372036854775807) (hM : Hs w a n b off l) (hcap : n ≤ cap) (hcm : cap ≤ 9223372036854775807) :
    Calls Try.prog 15 #[.slice ra rn rc, .int .i64 d, .slice a n cap, .int .i64 st, .int .i64 k, .int .i64 kn] w fun e w' => ∃ v, e = .returned (.tuple #[v, .int .i64 (againS R d l st k kn).1]) ∧ DsO w' w.heap.size v (againS R d l st k kn).2 ∧ Below w.heap.size w w' := by
  have HM := Lib.hid hM
  clear hM
  go_enter Try.func15, Try.ntmps15
  go_wp2_with fail
  refine (rat_any ra rn rc rb ro R d st kn w hR hrn).mono ?_
  rintro e W1 ⟨rfl, hb⟩
  have h1 := fun h => againS_bad (r := R) (d := d) (l := l) (st := st) (n := k) (kn := kn) h
  have h2 := fun h h' => againS_no (r := R) (d := d) (l := l) (st := st) (n := k) (kn := kn) h h'
  have h3 := fun h h' => againS_yes (r := R) (d := d) (l := l) (st := st) (n := k) (kn := kn) h h'
  generalize atV R d st kn = x at *
  obtain ⟨x0, x1, x2, xc⟩ := x
  dsimp only [vA] at *
  have HX := Lib.hid (show _ ∧ _ ∧ _ ∧ _ from ⟨h1, h2, h3, hb⟩)
  clear h1 h2 h3 hb hR
  by_cases hc : xc = 0
  case neg =>
    have z : (xc != 0) = true := bne_iff_ne.2 hc
    have E := Lib.hid (HX.out.1 hc)
    go_wp2
    exact bodyPost_ret (v := .tuple #[.slice none 0 0, .int .i64 xc]) (by simp [results, Try.results15, go_sem]) rfl ⟨_, by rw [E.out], by rw [E.out]; exact DsO.nil _ _, HX.out.2.2.2⟩
  subst hc
  have z : ((0 : Int) != 0) = false := by simp
  cases x2
  case false =>
    have E := Lib.hid (HX.out.2.1 rfl rfl)
    go_wp2
    exact bodyPost_ret (v := .tuple #[.slice none 0 0, .int .i64 251]) (by simp [results, Try.results15, go_sem]) rfl ⟨_, by rw [E.out], by rw [E.out]; exact DsO.nil _ _, HX.out.2.2.2⟩
  have E := Lib.hid (HX.out.2.2.1 rfl rfl)
  go_wp2_with fail
  refine (rlay_any a n cap b off l st k x0 x1 W1 (HM.out.grown HX.out.2.2.2) (by omega)).mono ?_
  rintro e W2 ⟨v, rfl, hO, hb2⟩
  have H2 := Lib.hid (show _ ∧ _ from ⟨hO, below_after HX.out.2.2.2 hb2 HX.out.2.2.2.size⟩)
  have hs := HX.out.2.2.2.size
  clear hO hb2
  go_wp2
  exact bodyPost_ret (v := .tuple #[v, .int .i64 (layS l st k x0 x1).1]) (by simp [results, Try.results15, go_sem]) rfl ⟨v, by rw [E.out], by rw [E.out]; exact H2.out.1.mono hs, H2.out.2⟩

theorem ragain_e {r : Sl} {R : List Rt} {d : Int} {s : Sl} {l : List Ht} {st k kn c : Int} {L : List Dt} (w : World) (hL : againS R d l st k kn = (c, L)) (hr : RsV w r R) (h : HsV w s l) :
    Calls Try.prog 15 #[vS r, .int .i64 d, vS s, .int .i64 st, .int .i64 k, .int .i64 kn] w fun e w' => ∃ s' : Sl, e = .returned (.tuple #[vS s', .int .i64 c]) ∧ DsV w' s' L ∧ Below w.heap.size w w' := by
  obtain ⟨b, off, h1, h2, h3⟩ := h
  obtain ⟨rb, ro, h4, h5⟩ := hr
  refine (ragain_any r.1 r.2.1 r.2.2 rb ro R d s.1 s.2.1 s.2.2 b off l st k kn w h4 h5 h1 h2 h3).mono ?_
  rw [hL]
  rintro e w' ⟨v, rfl, hO, hb⟩
  obtain ⟨s', rfl, hs⟩ := hO.v
  exact ⟨s', rfl, hs, hb⟩
set_option maxRecDepth 100000 in
set_option maxHeartbeats 8000000 in
theorem spec_walk (s : Sl) (l : List Ht) (st n i o : Int) (w : World) (hs : HsV w s l) :
    Calls Try.prog 3 #[vS s, .int .i64 st, .int .i64 n, .int .i64 i, .int .i64 o] w fun e w' => e = .returned (.bool true) ∧ Below w.heap.size w w' := by
  have H0 := Lib.hid (show _ ∧ _ from ⟨Below.refl w.heap.size w, hs⟩)
  clear hs
  obtain ⟨sa, sn, sc⟩ := s
  dsimp only [vS]
  go_enter Try.func3, Try.ntmps3
  go_wp2_with fail
  refine (sane_any w).mono ?_
  rintro e W1 ⟨rfl, hb⟩
  have H1 := Lib.hid (show _ ∧ _ from ⟨below_after H0.out.1 hb H0.out.1.size, H0.out.2.grown hb⟩)
  clear H0
  clear hb
  by_cases q0 : 40 < sn
  · have z0 : decide ((sn : Int) > 40) = true := decide_eq_true (by omega)
    go_wp2
    exact bodyPost_ret (v := .bool true) (by simp [results, Try.results3, go_sem]) rfl ⟨rfl, H1.out.1⟩
  have z0 : decide ((sn : Int) > 40) = false := decide_eq_false (by omega)
  by_cases q1 : 300 < n ∧ n ≤ 16777216
  · have z1 : decide (n > 300) = true := decide_eq_true q1.1
    have z2 : decide (n ≤ 16777216) = true := decide_eq_true q1.2
    go_wp2
    exact bodyPost_ret (v := .bool true) (by simp [results, Try.results3, go_sem]) rfl ⟨rfl, H1.out.1⟩
  by_cases q2 : 300 < n
  · have z1 : decide (n > 300) = true := decide_eq_true q2
    have z2 : decide (n ≤ 16777216) = false := decide_eq_false fun h => q1 ⟨q2, h⟩
    clear q1
    go_upto_region 5 with fail
    obtain ⟨c, hc⟩ : ∃ c, c = (layS l st n i o).1 := ⟨_, rfl⟩
    obtain ⟨L, hL⟩ : ∃ L, L = (layS l st n i o).2 := ⟨_, rfl⟩
    have HL := Lib.hid (show layS l st n i o = (c, L) from by rw [hc, hL])
    clear hc hL
    go_wp2_with fail
    refine (lay_e (s := (sa, sn, sc)) W1 HL.out H1.out.2).mono ?_
    rintro e W2 ⟨⟨a0, n0, c0⟩, rfl, hA, hb⟩
    have H2 := Lib.hid (show _ ∧ _ ∧ _ from ⟨below_after H1.out.1 hb H1.out.1.size, H1.out.2.grown hb, hA⟩)
    clear H1
    clear hb
    clear hA
    go_wp2_with fail
    refine (rlay_e (s := (sa, sn, sc)) W2 HL.out H2.out.2.1).mono ?_
    rintro e W3 ⟨⟨a1, n1, c1⟩, rfl, hA, hb⟩
    have H3 := Lib.hid (show _ ∧ _ ∧ _ ∧ _ from ⟨below_after H2.out.1 hb H2.out.1.size, H2.out.2.1.grown hb, H2.out.2.2.grown hb, hA⟩)
    clear H2
    clear hb
    clear hA
    have zc : (c == c) = true := by simp
    go_wp2_with fail
    refine (rsame_s (a0, n0, c0) (a1, n1, c1) _ _ true (decide_eq_true rfl) W3 H3.out.2.2.1 H3.out.2.2.2).mono ?_
    rintro e W4 ⟨rfl, hb⟩
    have H4 := Lib.hid (show _ ∧ _ ∧ _ ∧ _ from ⟨below_after H3.out.1 hb H3.out.1.size, H3.out.2.1.grown hb, H3.out.2.2.1.grown hb, H3.out.2.2.2.grown hb⟩)
    clear H3
    clear hb
    go_wp2
    exact bodyPost_ret (v := .bool true) (by simp [results, Try.results3, go_sem]) rfl ⟨rfl, H4.out.1⟩
  · have z1 : decide (n > 300) = false := decide_eq_false q2
    clear q1
    go_upto_region 5 with fail
    obtain ⟨c, hc⟩ : ∃ c, c = (layS l st n i o).1 := ⟨_, rfl⟩
    obtain ⟨L, hL⟩ : ∃ L, L = (layS l st n i o).2 := ⟨_, rfl⟩
    have HL := Lib.hid (show layS l st n i o = (c, L) from by rw [hc, hL])
    clear hc hL
    go_wp2_with fail
    refine (lay_e (s := (sa, sn, sc)) W1 HL.out H1.out.2).mono ?_
    rintro e W2 ⟨⟨a0, n0, c0⟩, rfl, hA, hb⟩
    have H2 := Lib.hid (show _ ∧ _ ∧ _ from ⟨below_after H1.out.1 hb H1.out.1.size, H1.out.2.grown hb, hA⟩)
    clear H1
    clear hb
    clear hA
    go_wp2_with fail
    refine (rlay_e (s := (sa, sn, sc)) W2 HL.out H2.out.2.1).mono ?_
    rintro e W3 ⟨⟨a1, n1, c1⟩, rfl, hA, hb⟩
    have H3 := Lib.hid (show _ ∧ _ ∧ _ ∧ _ from ⟨below_after H2.out.1 hb H2.out.1.size, H2.out.2.1.grown hb, H2.out.2.2.grown hb, hA⟩)
    clear H2
    clear hb
    clear hA
    have zc : (c == c) = true := by simp
    go_wp2_with fail
    refine (rsame_s (a0, n0, c0) (a1, n1, c1) _ _ true (decide_eq_true rfl) W3 H3.out.2.2.1 H3.out.2.2.2).mono ?_
    rintro e W4 ⟨rfl, hb⟩
    have H4 := Lib.hid (show _ ∧ _ ∧ _ ∧ _ from ⟨below_after H3.out.1 hb H3.out.1.size, H3.out.2.1.grown hb, H3.out.2.2.1.grown hb, H3.out.2.2.2.grown hb⟩)
    clear H3
    clear hb
    go_wp2
    exact bodyPost_ret (v := .bool true) (by simp [results, Try.results3, go_sem]) rfl ⟨rfl, H4.out.1⟩

set_option maxRecDepth 100000 in
set_option maxHeartbeats 8000000 in
theorem again_walk (r : Sl) (R : List Rt) (d : Int) (s : Sl) (l : List Ht) (st n kn : Int) (w : World) (hr : RsV w r R) (hs : HsV w s l) :
    Calls Try.prog 4 #[vS r, .int .i64 d, vS s, .int .i64 st, .int .i64 n, .int .i64 kn] w fun e w' => e = .returned (.bool true) ∧ Below w.heap.size w w' := by
  have H0 := Lib.hid (show _ ∧ _ ∧ _ from ⟨Below.refl w.heap.size w, hs, hr⟩)
  clear hs hr
  obtain ⟨sa, sn, sc⟩ := s
  obtain ⟨ra, rn, rc⟩ := r
  dsimp only [vS]
  go_enter Try.func4, Try.ntmps4
  go_wp2_with fail
  refine (sane_any w).mono ?_
  rintro e W1 ⟨rfl, hb⟩
  have H1 := Lib.hid (show _ ∧ _ ∧ _ from ⟨below_after H0.out.1 hb H0.out.1.size, H0.out.2.1.grown hb, H0.out.2.2.grown hb⟩)
  clear H0
  clear hb
  by_cases q9 : 40 < rn
  · have z0 : decide ((rn : Int) > 40) = true := decide_eq_true (by omega)
    go_wp2
    exact bodyPost_ret (v := .bool true) (by simp [results, Try.results4, go_sem]) rfl ⟨rfl, H1.out.1⟩
  have z9 : decide ((rn : Int) > 40) = false := decide_eq_false (by omega)
  by_cases q0 : 40 < sn
  · have z0 : decide ((sn : Int) > 40) = true := decide_eq_true (by omega)
    go_wp2
    exact bodyPost_ret (v := .bool true) (by simp [results, Try.results4, go_sem]) rfl ⟨rfl, H1.out.1⟩
  have z0 : decide ((sn : Int) > 40) = false := decide_eq_false (by omega)
  by_cases q1 : 300 < n ∧ n ≤ 16777216
  · have z1 : decide (n > 300) = true := decide_eq_true q1.1
    have z2 : decide (n ≤ 16777216) = true := decide_eq_true q1.2
    go_wp2
    exact bodyPost_ret (v := .bool true) (by simp [results, Try.results4, go_sem]) rfl ⟨rfl, H1.out.1⟩
  by_cases q2 : 300 < n
  · have z1 : decide (n > 300) = true := decide_eq_true q2
    have z2 : decide (n ≤ 16777216) = false := decide_eq_false fun h => q1 ⟨q2, h⟩
    clear q1
    obtain ⟨c, hc⟩ : ∃ c, c = (againS R d l st n kn).1 := ⟨_, rfl⟩
    obtain ⟨L, hL⟩ : ∃ L, L = (againS R d l st n kn).2 := ⟨_, rfl⟩
    have HL := Lib.hid (show againS R d l st n kn = (c, L) from by rw [hc, hL])
    clear hc hL
    go_wp2_with fail
    refine (again_e (r := (ra, rn, rc)) (s := (sa, sn, sc)) W1 HL.out H1.out.2.2 H1.out.2.1).mono ?_
    rintro e W2 ⟨⟨a0, n0, c0⟩, rfl, hA, hb⟩
    have H2 := Lib.hid (show _ ∧ _ ∧ _ ∧ _ from ⟨below_after H1.out.1 hb H1.out.1.size, H1.out.2.1.grown hb, H1.out.2.2.grown hb, hA⟩)
    clear H1
    clear hb
    clear hA
    go_wp2_with fail
    refine (ragain_e (r := (ra, rn, rc)) (s := (sa, sn, sc)) W2 HL.out H2.out.2.2.1 H2.out.2.1).mono ?_
    rintro e W3 ⟨⟨a1, n1, c1⟩, rfl, hA, hb⟩
    have H3 := Lib.hid (show _ ∧ _ ∧ _ ∧ _ ∧ _ from ⟨below_after H2.out.1 hb H2.out.1.size, H2.out.2.1.grown hb, H2.out.2.2.1.grown hb, H2.out.2.2.2.grown hb, hA⟩)
    clear H2
    clear hb
    clear hA
    have zc : (c == c) = true := by simp
    go_wp2_with fail
    refine (rsame_s (a0, n0, c0) (a1, n1, c1) _ _ true (decide_eq_true rfl) W3 H3.out.2.2.2.1 H3.out.2.2.2.2).mono ?_
    rintro e W4 ⟨rfl, hb⟩
    have H4 := Lib.hid (show _ ∧ _ ∧ _ ∧ _ ∧ _ from ⟨below_after H3.out.1 hb H3.out.1.size, H3.out.2.1.grown hb, H3.out.2.2.1.grown hb, H3.out.2.2.2.1.grown hb, H3.out.2.2.2.2.grown hb⟩)
    clear H3
    clear hb
    go_wp2
    exact bodyPost_ret (v := .bool true) (by simp [results, Try.results4, go_sem]) rfl ⟨rfl, H4.out.1⟩
  · have z1 : decide (n > 300) = false := decide_eq_false q2
    clear q1
    obtain ⟨c, hc⟩ : ∃ c, c = (againS R d l st n kn).1 := ⟨_, rfl⟩
    obtain ⟨L, hL⟩ : ∃ L, L = (againS R d l st n kn).2 := ⟨_, rfl⟩
    have HL := Lib.hid (show againS R d l st n kn = (c, L) from by rw [hc, hL])
    clear hc hL
    go_wp2_with fail
    refine (again_e (r := (ra, rn, rc)) (s := (sa, sn, sc)) W1 HL.out H1.out.2.2 H1.out.2.1).mono ?_
    rintro e W2 ⟨⟨a0, n0, c0⟩, rfl, hA, hb⟩
    have H2 := Lib.hid (show _ ∧ _ ∧ _ ∧ _ from ⟨below_after H1.out.1 hb H1.out.1.size, H1.out.2.1.grown hb, H1.out.2.2.grown hb, hA⟩)
    clear H1
    clear hb
    clear hA
    go_wp2_with fail
    refine (ragain_e (r := (ra, rn, rc)) (s := (sa, sn, sc)) W2 HL.out H2.out.2.2.1 H2.out.2.1).mono ?_
    rintro e W3 ⟨⟨a1, n1, c1⟩, rfl, hA, hb⟩
    have H3 := Lib.hid (show _ ∧ _ ∧ _ ∧ _ ∧ _ from ⟨below_after H2.out.1 hb H2.out.1.size, H2.out.2.1.grown hb, H2.out.2.2.1.grown hb, H2.out.2.2.2.grown hb, hA⟩)
    clear H2
    clear hb
    clear hA
    have zc : (c == c) = true := by simp
    go_wp2_with fail
    refine (rsame_s (a0, n0, c0) (a1, n1, c1) _ _ true (decide_eq_true rfl) W3 H3.out.2.2.2.1 H3.out.2.2.2.2).mono ?_
    rintro e W4 ⟨rfl, hb⟩
    have H4 := Lib.hid (show _ ∧ _ ∧ _ ∧ _ ∧ _ from ⟨below_after H3.out.1 hb H3.out.1.size, H3.out.2.1.grown hb, H3.out.2.2.1.grown hb, H3.out.2.2.2.1.grown hb, H3.out.2.2.2.2.grown hb⟩)
    clear H3
    clear hb
    go_wp2
    exact bodyPost_ret (v := .bool true) (by simp [results, Try.results4, go_sem]) rfl ⟨rfl, H4.out.1⟩
end Go.Proofs.Ythnhnmmabjmjgaa
