/- slices.Clone of knots (layer 11). -/
import Derived.Test.YtafffmcmdhbghaaCrvRVal
import Derived.Lib.SliceRun
namespace Go.Proofs.Ytafffmcmdhbghaa
open Go.ChangeShapes Go.WideShapes Go.ChangeAt Go.RowKit

set_option maxHeartbeats 2000000 in
theorem clone_any (a : Option Addr) (b off n cap : Nat) (l : List Kt) (w : World) (h : Ks w a n b off l) (hn : n ≤ 1100000) (hnc : a = none → cap = 0) :
    Calls Try.prog 31 #[.slice a n cap] w fun e w' => (∃ v, e = .returned v ∧ KsO w' w.heap.size v l) ∧ Below w.heap.size w w' := by
  have HK := Lib.hid h
  clear h
  have qT : ∀ (w : World) (a : Option Addr) (n c n' c' : Nat), (binOp .eql 22 (.slice a n c) (.slice none n' c')).run Try.prog w = .ok (.bool a.isNone) w := fun w a n c n' c' => Lib.run_eql_slice_nil w _ _ a n c n' c' Try.underlying22
  go_enter Try.func31, Try.ntmps31
  cases a with
  | none =>
    obtain rfl : cap = 0 := hnc rfl
    obtain rfl : n = 0 := by
      rcases Nat.eq_zero_or_pos n with h | h
      · exact h
      · have := (HK.out.2.1 h).1; cases this
    obtain rfl : l = [] := List.eq_nil_of_length_eq_zero HK.out.1
    go_wp2
    exact bodyPost_ret (by simp [results, Try.results31, go_sem]) rfl ⟨⟨_, rfl, KsO.nil _ _⟩, Below.refl _ _⟩
  | some ad =>
    go_wp2_with (at_builtin; refine wpList_append_Ks rfl _ _ rfl w.heap.size _ [] rfl (KsO.empty w) _ b off _ _ l rfl (HK.out.grown (by go_grown)) (fun h => by cases h) (by simp; omega) (by simp) ?_; intro v1 w1 hO hB hG; clear hG; rw [List.nil_append] at hO; have HO := Lib.hid (show _ ∧ _ from ⟨hO, ((Below.refl w.heap.size w).alloc (Nat.le_refl _) _).trans hB⟩); clear hO hB)
    exact bodyPost_ret (by simp [results, Try.results31, go_sem]) rfl ⟨⟨_, rfl, HO.out.1⟩, HO.out.2⟩
end Go.Proofs.Ytafffmcmdhbghaa
