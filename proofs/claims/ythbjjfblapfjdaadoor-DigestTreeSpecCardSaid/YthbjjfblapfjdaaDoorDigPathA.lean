/- Path (layer 2), and the reference's. -/
import Derived.Test.YthbjjfblapfjdaaDoorDigSteps
import Derived.Test.YthbjjfblapfjdaaDoorDigWalk
import Derived.Test.YthbjjfblapfjdaaDoorDigRPath
namespace Go.Proofs.YthbjjfblapfjdaaDoor
open Go.ChangeShapes Go.WideShapes Go.ChangeAt Go.RowKit
/-- What Path answers. -/
def PathR (l : List (List Int)) (n : Nat) (i : Int) (w : World) (e : Ending) (w' : World) : Prop :=
  (∃ j : Nat, i = j ∧ j < n ∧ ∃ v, e = .returned (.tuple #[v, .int .i64 0]) ∧ DgsO w' w.heap.size v (pathL l j)) ∨ ((i < 0 ∨ (n : Int) ≤ i) ∧ e = .returned (.tuple #[.slice none 0 0, .int .i64 1]))
theorem path_any (a : Option Addr) (b off n cap : Nat) (l : List (List Int)) (i : Int) (w : World) (hR : DigR w a b off n l) (hn : n ≤ 100000) (hcap : n ≤ cap) (hK : Keys w) :
    Calls Tryd.prog 19 #[.slice a n cap, .int .i64 i] w fun e w' => PathR l n i w e w' ∧ Below w.heap.size w w' := by
  by_cases h0 : 0 ≤ i
  · obtain ⟨j, rfl⟩ := Int.eq_ofNat_of_zero_le h0
    by_cases h1 : j < n
    · have i1 : ((j : Int) < 0) = False := by simp
      have i2 : ((j : Int) ≥ (n : Int)) = False := by simp; omega
      have i3 : ¬ (n : Int) ≤ (j : Int) := by omega
      have c := walk_any n hn j a b off cap l w h1 hR hcap hK
      clear hR hK
      go_enter Tryd.func19, Tryd.ntmps19
      go_wp2_with (go_at_call 37; refine c.mono ?_; rintro e w' ⟨v, rfl, hO, hb⟩)
      have HO := Lib.hid (show _ ∧ _ from ⟨hO, hb⟩)
      clear hO hb
      go_wp2
      refine bodyPost_ret (v := .tuple #[v, .int .i64 0]) (by simp [results, Tryd.results19, go_sem]) rfl ?_
      exact ⟨.inl ⟨j, rfl, h1, v, rfl, HO.out.1⟩, HO.out.2⟩
    · have i2 : (n : Int) ≤ (j : Int) := by omega
      clear hR hK
      go_enter Tryd.func19, Tryd.ntmps19
      go_wp2
      refine bodyPost_ret (v := .tuple #[.slice none 0 0, .int .i64 1]) (by simp [results, Tryd.results19, go_sem]) rfl ?_
      exact ⟨.inr ⟨.inr i2, rfl⟩, Below.refl _ _⟩
  · have i1 : i < 0 := by omega
    clear hR hK
    go_enter Tryd.func19, Tryd.ntmps19
    go_wp2
    refine bodyPost_ret (v := .tuple #[.slice none 0 0, .int .i64 1]) (by simp [results, Tryd.results19, go_sem]) rfl ?_
    exact ⟨.inr ⟨.inl i1, rfl⟩, Below.refl _ _⟩
theorem rpathE_any (a : Option Addr) (b off n cap : Nat) (l : List (List Int)) (i : Int) (w : World) (hR : DigR w a b off n l) (hn : n ≤ 100000) (hcap : n ≤ cap) :
    Calls Tryd.prog 20 #[.slice a n cap, .int .i64 i] w fun e w' => PathR l n i w e w' ∧ Below w.heap.size w w' := by
  by_cases h0 : 0 ≤ i
  · obtain ⟨j, rfl⟩ := Int.eq_ofNat_of_zero_le h0
    by_cases h1 : j < n
    · have i1 : ((j : Int) < 0) = False := by simp
      have i2 : ((j : Int) ≥ (n : Int)) = False := by simp; omega
      have i3 : ¬ (n : Int) ≤ (j : Int) := by omega
      have c := rpath_any n hn j a b off cap l w h1 hR hcap
      clear hR
      go_enter Tryd.func20, Tryd.ntmps20
      go_wp2_with (go_at_call 38; refine c.mono ?_; rintro e w' ⟨v, rfl, hO, hb⟩)
      have HO := Lib.hid (show _ ∧ _ from ⟨hO, hb⟩)
      clear hO hb
      go_wp2
      refine bodyPost_ret (v := .tuple #[v, .int .i64 0]) (by simp [results, Tryd.results20, go_sem]) rfl ?_
      exact ⟨.inl ⟨j, rfl, h1, v, rfl, HO.out.1⟩, HO.out.2⟩
    · have i2 : (n : Int) ≤ (j : Int) := by omega
      clear hR
      go_enter Tryd.func20, Tryd.ntmps20
      go_wp2
      refine bodyPost_ret (v := .tuple #[.slice none 0 0, .int .i64 1]) (by simp [results, Tryd.results20, go_sem]) rfl ?_
      exact ⟨.inr ⟨.inr i2, rfl⟩, Below.refl _ _⟩
  · have i1 : i < 0 := by omega
    clear hR
    go_enter Tryd.func20, Tryd.ntmps20
    go_wp2
    refine bodyPost_ret (v := .tuple #[.slice none 0 0, .int .i64 1]) (by simp [results, Tryd.results20, go_sem]) rfl ?_
    exact ⟨.inr ⟨.inl i1, rfl⟩, Below.refl _ _⟩
end Go.Proofs.YthbjjfblapfjdaaDoor
