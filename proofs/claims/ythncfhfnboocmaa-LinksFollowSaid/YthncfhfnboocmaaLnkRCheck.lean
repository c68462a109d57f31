/- The reference's Check (layer 13). -/
import Derived.Test.YthncfhfnboocmaaLnkRForm
import Derived.Test.YthncfhfnboocmaaLnkRCirc
namespace Go.Proofs.Ythncfhfnboocmaa
open Go.ChangeShapes Go.WideShapes Go.ChangeAt Go.RowKit

set_option maxRecDepth 100000 in
set_option maxHeartbeats 4000000 in
theorem rCheck (m : Int) (a : Option Addr) (b off n cap : Nat) (l : List Jt) (w : World) (h : Js w a n b off l) (hn : n ≤ 9223372036854775807) :
    Calls Try.prog 12 #[.int .i64 m, .slice a n cap] w fun e w' => e = .returned (.int .i64 (chkL m l)) ∧ Below w.heap.size w w' := by
  have hl := h.1
  have HK := Lib.hid h
  clear h
  by_cases h0 : 0 ≤ m
  case neg =>
    have EB := Lib.hid (chkL_arg (l := l) (m := m) (fun g => h0 g.1))
    go_enter Try.func12, Try.ntmps12
    go_wp2
    go_ret
    exact ⟨by rw [EB.out]; rfl, Below.refl _ _⟩
  by_cases h1 : m ≤ 256
  case neg =>
    have EB := Lib.hid (chkL_arg (l := l) (m := m) (fun g => h1 g.2))
    go_enter Try.func12, Try.ntmps12
    go_wp2
    go_ret
    exact ⟨by rw [EB.out]; rfl, Below.refl _ _⟩
  by_cases hn2 : n ≤ 256
  case neg =>
    have EB := Lib.hid (chkL_limit (l := l) ⟨h0, h1⟩ (by omega))
    have i3 : (256 : Int) < (n : Int) := by omega
    go_enter Try.func12, Try.ntmps12
    go_wp2
    go_ret
    exact ⟨by rw [EB.out]; rfl, Below.refl _ _⟩
  have i3 : ¬ (256 : Int) < (n : Int) := by omega
  have hl2 : ¬ 256 < l.length := by omega
  obtain ⟨m, rfl⟩ : ∃ k : Nat, m = k := ⟨m.toNat, by omega⟩
  by_cases hf : okJs (m : Int) l n ∧ apart l n
  case neg =>
    have EB := Lib.hid (chkL_link (l := l) ⟨h0, h1⟩ hl2 (by rw [hl]; exact hf))
    have ef := fmdB_f hf
    clear hf
    go_enter Try.func12, Try.ntmps12
    go_wp2_with (go_at_call 25; refine (rFormed (m : Int) a b off n cap l _ HK.out hn2).mono ?_; rintro e w1 ⟨rfl, hB1⟩; rw [ef])
    go_ret
    exact ⟨by rw [EB.out]; rfl, hB1⟩
  have ef := fmdB_t hf
  have hf2 : okJs (m : Int) l l.length ∧ apart l l.length := by rw [hl]; exact hf
  have HF := Lib.hid hf
  by_cases he : ends1 l
  · have EB := Lib.hid (chkL_ok ⟨h0, h1⟩ hl2 hf2 he)
    have ec := cirB_f ((ends_iff hf2.1 hf2.2 h0).1 he)
    clear hf hf2 he
    go_enter Try.func12, Try.ntmps12
    go_wp2_with (first | (go_at_call 25; refine (rFormed (m : Int) a b off n cap l _ HK.out hn2).mono ?_; rintro e w1 ⟨rfl, hB1⟩; rw [ef]) | (go_at_call 26; refine (rCirc m a b off n cap l _ (HK.out.grown hB1) hn2 (by omega) HF.out.2).mono ?_; rintro e w2 ⟨rfl, hB2⟩; rw [ec]))
    go_ret
    exact ⟨by rw [EB.out]; rfl, below_after hB1 hB2 hB1.size⟩
  · have EB := Lib.hid (chkL_circ ⟨h0, h1⟩ hl2 hf2 he)
    have ec := cirB_t (fun g => he ((ends_iff hf2.1 hf2.2 h0).2 g))
    clear hf hf2 he
    go_enter Try.func12, Try.ntmps12
    go_wp2_with (first | (go_at_call 25; refine (rFormed (m : Int) a b off n cap l _ HK.out hn2).mono ?_; rintro e w1 ⟨rfl, hB1⟩; rw [ef]) | (go_at_call 26; refine (rCirc m a b off n cap l _ (HK.out.grown hB1) hn2 (by omega) HF.out.2).mono ?_; rintro e w2 ⟨rfl, hB2⟩; rw [ec]))
    go_ret
    exact ⟨by rw [EB.out]; rfl, below_after hB1 hB2 hB1.size⟩
end Go.Proofs.Ythncfhfnboocmaa
