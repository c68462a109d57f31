/- The reference's Link and ready (layer 13). -/
import Derived.Test.YthncfhfnboocmaaLnkCheck
namespace Go.Proofs.Ythncfhfnboocmaa
open Go.ChangeShapes Go.WideShapes Go.ChangeAt Go.RowKit

theorem srcN_none {l : List Jt} {p : Int} {n : Nat} (h : ∀ i, i < n → (nthJ l i).2.1 ≠ p) : srcN l p n = 0 := by
  rcases Nat.eq_zero_or_pos (srcN l p n) with e | e
  · exact e
  · have := srcN_le l p n
    exact absurd (srcN_to n e) (h _ (by omega))

set_option maxRecDepth 100000 in
set_option maxHeartbeats 4000000 in
theorem rLink (a : Option Addr) (b off n cap : Nat) (l : List Jt) (p : Int) (w : World) (h : Js w a n b off l) (hn : n ≤ 256) (hap : apart l n) :
    Calls Try.prog 30 #[.slice a n cap, .int .i64 p] w fun e w' => e = .returned (.int .i64 ((srcN l p n : Int) - 1)) ∧ w' = w := by
  have HK := Lib.hid (show _ ∧ _ from ⟨h, hap⟩)
  clear h hap
  go_enter Try.func30, Try.ntmps30
  go_wp2
  go_loopw [5] (fun i wr => ∃ k : Nat, k ≤ n ∧ i = .int .i64 k ∧ (∀ i, i < k → (nthJ l i).2.1 ≠ p) ∧ wr = w) (fun i _ => n - (intOf i).toNat)
  case atStart => exact ⟨0, Nat.zero_le _, rfl, fun i hi => by omega, rfl⟩
  case round =>
    obtain ⟨k, hk, rfl, hno, rfl⟩ := hrel
    by_cases hlt : k < n
    case neg =>
      obtain rfl : k = n := by omega
      have EB := Lib.hid (srcN_none hno)
      clear hno
      go_wp2
      go_ret
      exact ⟨by rw [EB.out]; rfl, rfl⟩
    obtain ⟨rfl, hbw⟩ := HK.out.1.2.1 (by omega)
    obtain ⟨c0, c1, c2, c3, c4⟩ := HK.out.1.2.2 k hlt
    have i2 : (k : Int) < (n : Int) := by omega
    have uk : IntKind.i64.wrap ((k : Int) + 1) = (k : Int) + 1 := wrap_id (by omega)
    by_cases he : (nthJ l k).2.1 = p
    · have EB := Lib.hid (srcN_is HK.out.2 hlt he)
      subst he
      clear hno
      go_wp2
      go_ret
      exact ⟨by rw [EB.out]; exact ret_int (by omega), rfl⟩
    · have HS := Lib.hid (show ∀ i, i < k + 1 → (nthJ l i).2.1 ≠ p from fun i hi => by
        by_cases e : i = k
        · subst e; exact he
        · exact hno i (by omega))
      have hb : ((nthJ l k).2.1 == p) = false := by simpa using he
      clear hno
      generalize (nthJ l k).2.1 = y at *
      go_wp2
      go_roundw
      case rel => exact ⟨k + 1, by omega, by go_num, HS.out, trivial⟩
      case measure => simp [intOf]; omega
end Go.Proofs.Ythncfhfnboocmaa
