/- Again (layer 44). -/
import Derived.Test.YthnhnmmabjmjgaaOvdLay
import Derived.Test.YthnhnmmabjmjgaaCalCnt
import Derived.Test.YthnhnmmabjmjgaaCalRef2
namespace Go.Proofs.Ythnhnmmabjmjgaa
open Go.ChangeShapes Go.WideShapes Go.ChangeAt Go.RowKit Go.Shelf

noncomputable def againS (r : List Rt) (d : Int) (l : List Ht) (st n kn : Int) : Int × List Dt :=
  if (atV r d st kn).2.2.2 = 0 then (if (atV r d st kn).2.2.1 = true then layS l st n (atV r d st kn).1 (atV r d st kn).2.1 else (251, [])) else ((atV r d st kn).2.2.2, [])
theorem againS_bad {r : List Rt} {d : Int} {l : List Ht} {st n kn : Int} (h : (atV r d st kn).2.2.2 ≠ 0) : againS r d l st n kn = ((atV r d st kn).2.2.2, []) := if_neg h
theorem againS_no {r : List Rt} {d : Int} {l : List Ht} {st n kn : Int} (h : (atV r d st kn).2.2.2 = 0) (h2 : (atV r d st kn).2.2.1 = false) : againS r d l st n kn = (251, []) := (if_pos h).trans (if_neg (by rw [h2]; decide))
theorem againS_yes {r : List Rt} {d : Int} {l : List Ht} {st n kn : Int} (h : (atV r d st kn).2.2.2 = 0) (h2 : (atV r d st kn).2.2.1 = true) : againS r d l st n kn = layS l st n (atV r d st kn).1 (atV r d st kn).2.1 := (if_pos h).trans (if_pos h2)
set_option maxRecDepth 100000 in
set_option maxHeartbeats 4000000 in
theorem again_any (ra : Option Addr) (rn rc rb ro : Nat) (R : List Rt) (d : Int) (a : Option Addr) (n cap b off : Nat) (l : List Ht) (st k kn : Int) (w : World) (hR : Rs w ra rn rb ro R) (hrn : rn ≤ 9223372036854775807) (hM : Hs w a n b off l) (hcap : n ≤ cap) (hcm : cap ≤ 9223372036854775807) :
    Calls Try.prog 14 #[.slice ra rn rc, .int .i64 d, .slice a n cap, .int .i64 st, .int .i64 k, .int .i64 kn] w fun e w' => ∃ v, e = .returned (.tuple #[v, .int .i64 (againS R d l st k kn).1]) ∧ DsO w' w.heap.size v (againS R d l st k kn).2 ∧ Below w.heap.size w w' := by
  have HM := Lib.hid hM
  clear hM
  go_enter Try.func14, Try.ntmps14
  go_wp2_with fail
  refine (at_any ra rn rc rb ro R d st kn w hR hrn).mono ?_
  rintro e W1 ⟨rfl, hb⟩
  have h1 := fun h => againS_bad (r := R) (d := d) (l := l) (st := st) (n := k) (kn := kn) h
  have h2 := fun h h' => againS_no (r := R) (d := d) (l := l) (st := st) (n := k) (kn := kn) h h'
  have h3 := fun h h' => againS_yes (r := R) (d := d) (l := l) (st := st) (n := k) (kn := kn) h h'
  generalize atV R d st kn = x at *
  obtain ⟨x0, x1, x2, xc⟩ := x
  dsimp only [vA] at *
  have HX := Lib.hid (show _ ∧ _ ∧ _ ∧ _ from ⟨h1, h2, h3, hb⟩)
  clear h1 h2 h3 hb hR
  by_cases hc : xc = 0
  case neg =>
    have z : (xc != 0) = true := bne_iff_ne.2 hc
    have E := Lib.hid (HX.out.1 hc)
    go_wp2
    exact bodyPost_ret (v := .tuple #[.slice none 0 0, .int .i64 xc]) (by simp [results, Try.results14, go_sem]) rfl ⟨_, by rw [E.out], by rw [E.out]; exact DsO.nil _ _, HX.out.2.2.2⟩
  subst hc
  have z : ((0 : Int) != 0) = false := by simp
  cases x2
  case false =>
    have E := Lib.hid (HX.out.2.1 rfl rfl)
    go_wp2
    exact bodyPost_ret (v := .tuple #[.slice none 0 0, .int .i64 251]) (by simp [results, Try.results14, go_sem]) rfl ⟨_, by rw [E.out], by rw [E.out]; exact DsO.nil _ _, HX.out.2.2.2⟩
  have E := Lib.hid (HX.out.2.2.1 rfl rfl)
  go_wp2_with fail
  refine (lay_any a n cap b off l st k x0 x1 W1 (HM.out.grown HX.out.2.2.2) hcap hcm).mono ?_
  rintro e W2 ⟨v, rfl, hO, hb2⟩
  have H2 := Lib.hid (show _ ∧ _ from ⟨hO, below_after HX.out.2.2.2 hb2 HX.out.2.2.2.size⟩)
  have hs := HX.out.2.2.2.size
  clear hO hb2
  go_wp2
  exact bodyPost_ret (v := .tuple #[v, .int .i64 (layS l st k x0 x1).1]) (by simp [results, Try.results14, go_sem]) rfl ⟨v, by rw [E.out], by rw [E.out]; exact H2.out.1.mono hs, H2.out.2⟩
end Go.Proofs.Ythnhnmmabjmjgaa
