/- OverdubSum (layer 44). -/
import Derived.Test.YthnhnmmabjmjgaaOvdSane
import Derived.Test.YthnhnmmabjmjgaaOvdOrd
import Derived.Test.YthnhnmmabjmjgaaOpenSH
import Derived.Test.YthnhnmmabjmjgaaOpenSR
import Derived.Test.YthnhnmmabjmjgaaOpenSD
namespace Go.Proofs.Ythnhnmmabjmjgaa
open Go.ChangeShapes Go.WideShapes Go.ChangeAt Go.RowKit Go.Shelf

theorem rinorder_e {s : Sl} {l : List Ht} (b : Bool) (hb : decide (OrdS l) = b) (w : World) (h : HsV w s l) : Calls Try.prog 19 #[vS s] w fun e w' => e = .returned (.bool b) ∧ Below w.heap.size w w' := by
  obtain ⟨b1, o1, h1, h2, h3⟩ := h
  have := rinorder_any s.1 s.2.1 s.2.2 b1 o1 l w h1 (by omega)
  rwa [hb] at this
theorem HsV.of {w : World} {a : Option Addr} {len cap : Nat} {l : List Ht} (h : LiesH w a len cap l) : HsV w (a, len, cap) l := by
  obtain ⟨b, off, h1, _, _, _, h2, h3⟩ := liesH_of h
  exact ⟨b, off, h1, h2, h3⟩
theorem RsV.of {w : World} {a : Option Addr} {len cap : Nat} {l : List Rt} (h : LiesR w a len cap l) : RsV w (a, len, cap) l := by
  obtain ⟨b, off, h1, _, h2, _⟩ := liesR_of h
  exact ⟨b, off, h1, h2⟩
theorem DsV.of {w : World} {a : Option Addr} {len cap : Nat} {l : List Dt} (h : LiesD w a len cap l) : DsV w (a, len, cap) l := by
  obtain ⟨b, off, h1, _, h2, _⟩ := liesD_of h
  exact ⟨b, off, h1, h2⟩
set_option maxRecDepth 100000 in
set_option maxHeartbeats 8000000 in
theorem sum_walk (s : Sl) (l : List Ht) (st n i o m : Int) (w : World) (hs : HsV w s l) (b1 : 0 ≤ st ∧ st ≤ 4294967295) (b2 : 0 ≤ n ∧ n ≤ 65535) (b3 : 0 ≤ i ∧ i ≤ 65535) (b4 : 0 ≤ o ∧ o ≤ 65535) (b5 : 0 ≤ m ∧ m ≤ 65535) :
    Calls Try.prog 7 #[vS s, .int .u32 st, .int .u16 n, .int .u16 i, .int .u16 o, .int .u16 m] w fun e w' => e = .returned (.bool true) ∧ Below w.heap.size w w' := by
  have H0 := Lib.hid (show _ ∧ _ from ⟨Below.refl w.heap.size w, hs⟩)
  clear hs
  obtain ⟨sa, sn, sc⟩ := s
  dsimp only [vS]
  go_enter Try.func7, Try.ntmps7
  go_wp2_with fail
  refine (sane_any w).mono ?_
  rintro e W1 ⟨rfl, hb⟩
  have H1 := Lib.hid (show _ ∧ _ from ⟨below_after H0.out.1 hb H0.out.1.size, H0.out.2.grown hb⟩)
  clear H0
  clear hb
  by_cases q0 : 40 < sn
  · have z0 : decide ((sn : Int) > 40) = true := decide_eq_true (by omega)
    go_wp2
    exact bodyPost_ret (v := .bool true) (by simp [results, Try.results7, go_sem]) rfl ⟨rfl, H1.out.1⟩
  have z0 : decide ((sn : Int) > 40) = false := decide_eq_false (by omega)
  by_cases q1 : 300 < n
  · have z1 : decide (n > 300) = true := decide_eq_true (by omega)
    go_wp2
    exact bodyPost_ret (v := .bool true) (by simp [results, Try.results7, go_sem]) rfl ⟨rfl, H1.out.1⟩
  have z1 : decide (n > 300) = false := decide_eq_false (by omega)
  by_cases q2 : OrdS l
  case neg =>
    go_wp2_with fail
    refine (rinorder_e (s := (sa, sn, sc)) false (decide_eq_false q2) W1 H1.out.2).mono ?_
    rintro e Wn2 ⟨rfl, hb⟩
    have Hn2 := Lib.hid (show _ ∧ _ from ⟨below_after H1.out.1 hb H1.out.1.size, H1.out.2.grown hb⟩)
    clear H1
    clear hb
    go_wp2
    exact bodyPost_ret (v := .bool true) (by simp [results, Try.results7, go_sem]) rfl ⟨rfl, Hn2.out.1⟩
  go_wp2_with fail
  refine (rinorder_e (s := (sa, sn, sc)) true (decide_eq_true q2) W1 H1.out.2).mono ?_
  rintro e W2 ⟨rfl, hb⟩
  have H2 := Lib.hid (show _ ∧ _ from ⟨below_after H1.out.1 hb H1.out.1.size, H1.out.2.grown hb⟩)
  clear H1
  clear hb
  clear z0 z1
  have hA : ∀ st' i' o', (0 ≤ st' ∧ st' ≤ 1099511627776) → (0 ≤ i' ∧ i' ≤ 1048576) → (0 ≤ o' ∧ o' ≤ 1048576) → st' - i' - o' = st - i - o → layS l st' n i' o' = (0, layF (runsL l (st - i - o) n)) := fun st' i' o' h1 h2 h3 h4 => by
    rw [layS_yes ⟨q2, h1, ⟨by omega, by omega⟩, h2, h3⟩, h4]
  have HA := Lib.hid hA
  clear hA q2
  go_wp2_with fail
  refine (lay_e (s := (sa, sn, sc)) W2 (HA.out st i o ⟨by omega, by omega⟩ ⟨by omega, by omega⟩ ⟨by omega, by omega⟩ (by omega)) H2.out.2).mono ?_
  rintro e W3 ⟨⟨a0, n0, c0⟩, rfl, hA, hb⟩
  have H3 := Lib.hid (show _ ∧ _ ∧ _ from ⟨below_after H2.out.1 hb H2.out.1.size, H2.out.2.grown hb, hA⟩)
  clear H2
  clear hb
  clear hA
  go_wp2_with fail
  refine (lay_e (s := (sa, sn, sc)) W3 (HA.out st o i ⟨by omega, by omega⟩ ⟨by omega, by omega⟩ ⟨by omega, by omega⟩ (by omega)) H3.out.2.1).mono ?_
  rintro e W4 ⟨⟨a1, n1, c1⟩, rfl, hA, hb⟩
  have H4 := Lib.hid (show _ ∧ _ ∧ _ ∧ _ from ⟨below_after H3.out.1 hb H3.out.1.size, H3.out.2.1.grown hb, H3.out.2.2.grown hb, hA⟩)
  clear H3
  clear hb
  clear hA
  go_wp2_with fail
  refine (lay_e (s := (sa, sn, sc)) W4 (HA.out st 0 (i + o) ⟨by omega, by omega⟩ ⟨by omega, by omega⟩ ⟨by omega, by omega⟩ (by omega)) H4.out.2.1).mono ?_
  rintro e W5 ⟨⟨a2, n2, c2⟩, rfl, hA, hb⟩
  have H5 := Lib.hid (show _ ∧ _ ∧ _ ∧ _ ∧ _ from ⟨below_after H4.out.1 hb H4.out.1.size, H4.out.2.1.grown hb, H4.out.2.2.1.grown hb, H4.out.2.2.2.grown hb, hA⟩)
  clear H4
  clear hb
  clear hA
  go_wp2_with fail
  refine (lay_e (s := (sa, sn, sc)) W5 (HA.out (st + m) (i + m) o ⟨by omega, by omega⟩ ⟨by omega, by omega⟩ ⟨by omega, by omega⟩ (by omega)) H5.out.2.1).mono ?_
  rintro e W6 ⟨⟨a3, n3, c3⟩, rfl, hA, hb⟩
  have H6 := Lib.hid (show _ ∧ _ ∧ _ ∧ _ ∧ _ ∧ _ from ⟨below_after H5.out.1 hb H5.out.1.size, H5.out.2.1.grown hb, H5.out.2.2.1.grown hb, H5.out.2.2.2.1.grown hb, H5.out.2.2.2.2.grown hb, hA⟩)
  clear H5
  clear hb
  clear hA
  go_wp2_with fail
  refine (rsame_s (a0, n0, c0) (a1, n1, c1) _ _ true (decide_eq_true rfl) W6 H6.out.2.2.1 H6.out.2.2.2.1).mono ?_
  rintro e W7 ⟨rfl, hb⟩
  have H7 := Lib.hid (show _ ∧ _ ∧ _ ∧ _ ∧ _ ∧ _ from ⟨below_after H6.out.1 hb H6.out.1.size, H6.out.2.1.grown hb, H6.out.2.2.1.grown hb, H6.out.2.2.2.1.grown hb, H6.out.2.2.2.2.1.grown hb, H6.out.2.2.2.2.2.grown hb⟩)
  clear H6
  clear hb
  go_wp2_with fail
  refine (rsame_s (a0, n0, c0) (a2, n2, c2) _ _ true (decide_eq_true rfl) W7 H7.out.2.2.1 H7.out.2.2.2.2.1).mono ?_
  rintro e W8 ⟨rfl, hb⟩
  have H8 := Lib.hid (show _ ∧ _ ∧ _ ∧ _ ∧ _ ∧ _ from ⟨below_after H7.out.1 hb H7.out.1.size, H7.out.2.1.grown hb, H7.out.2.2.1.grown hb, H7.out.2.2.2.1.grown hb, H7.out.2.2.2.2.1.grown hb, H7.out.2.2.2.2.2.grown hb⟩)
  clear H7
  clear hb
  go_wp2_with fail
  refine (rsame_s (a0, n0, c0) (a3, n3, c3) _ _ true (decide_eq_true rfl) W8 H8.out.2.2.1 H8.out.2.2.2.2.2).mono ?_
  rintro e W9 ⟨rfl, hb⟩
  have H9 := Lib.hid (show _ ∧ _ ∧ _ ∧ _ ∧ _ ∧ _ from ⟨below_after H8.out.1 hb H8.out.1.size, H8.out.2.1.grown hb, H8.out.2.2.1.grown hb, H8.out.2.2.2.1.grown hb, H8.out.2.2.2.2.1.grown hb, H8.out.2.2.2.2.2.grown hb⟩)
  clear H8
  clear hb
  go_wp2
  exact bodyPost_ret (v := .bool true) (by simp [results, Try.results7, go_sem]) rfl ⟨rfl, H9.out.1⟩
end Go.Proofs.Ythnhnmmabjmjgaa
