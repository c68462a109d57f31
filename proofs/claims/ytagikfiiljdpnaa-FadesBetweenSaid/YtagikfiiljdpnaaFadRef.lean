/- The reference's In and Out, Same and Few (layer 27). -/
import Derived.Test.YtagikfiiljdpnaaFadIter
import Derived.Test.YtagikfiiljdpnaaOwnSt
import Derived.StillTailTactics
namespace Go.Proofs.Ytagikfiiljdpnaa
open Go.ChangeShapes Go.WideShapes Go.ChangeAt Go.RowKit

theorem rfew_any (a : Option Addr) (n cap : Nat) (w : World) :
    Calls Try.prog 13 #[.slice a n cap] w fun e w' => e = .returned (.bool (decide ((n : Int) ≤ 1000))) ∧ w' = w := by
  go_enter Try.func13, Try.ntmps13
  go_wp2
  go_ret
  exact ⟨rfl, rfl⟩

theorem same_any (a a' : Option Addr) (b b' off off' n n' cap cap' : Nat) (l l' : List Int) (w : World) (h : Row w a b off n l) (h' : Row w a' b' off' n' l') (hn : n ≤ 16777216) (hn' : n' ≤ 16777216) (he : l = l') :
    Calls Try.prog 18 #[.slice a n cap, .slice a' n' cap'] w fun e w' => e = .returned (.bool true) ∧ Below w.heap.size w w' := by
  subst he
  obtain rfl : n = n' := by rw [← h.len, h'.len]
  have HR := Lib.hid h; have HR' := Lib.hid h'; clear h h'
  go_enter Try.func18, Try.ntmps18
  go_wp2
  go_loopw [5] (fun i wr => ∃ k : Nat, k ≤ n ∧ i = .int .i64 k ∧ Below w.heap.size w wr) (fun i _ => n - (intOf i).toNat)
  case atStart => exact ⟨0, Nat.zero_le _, rfl, Below.refl _ _⟩
  case round =>
    obtain ⟨k, hk, rfl, hB⟩ := hrel
    by_cases hlt : k < n
    · obtain rfl := HR.out.adr (by omega)
      obtain rfl := HR'.out.adr (by omega)
      have hc1 := (HR.out.below hB (Nat.le_refl _)).cel k hlt
      have hc2 := (HR'.out.below hB (Nat.le_refl _)).cel k hlt
      generalize hx : l.getD k 0 = x at *
      have HX := Lib.hid hx; clear hx
      go_wp2
      go_quiet (fail)
      go_wp2
      go_roundw
      case rel => exact ⟨k + 1, by omega, by go_num, below_drewN hB _⟩
      case measure => simp [intOf]; omega
    · obtain rfl : k = n := by omega
      go_wp2
      go_ret
      exact ⟨rfl, hB⟩

def FOk (len n : Int) : Prop := len ≤ 16777216 ∧ 0 ≤ n ∧ n ≤ len
instance (len n : Int) : Decidable (FOk len n) := by unfold FOk; infer_instance
theorem fits_any (a : Option Addr) (len cap : Nat) (n : Int) (w : World) :
    Calls Try.prog 26 #[.slice a len cap, .int .i64 n] w fun e w' => e = .returned (.bool (decide (FOk len n))) ∧ w = w' := by
  by_cases h : FOk len n
  · rw [decide_eq_true h]
    have v1 := within_t (v := n) (lo := 0) (hi := len) h.2
    have h1 := h.1
    clear h
    go_enter Try.func26, Try.ntmps26
    go_wp2_with (go_at_call 39; refine (within_any _ _ _ _).mono ?_; rintro e w' ⟨rfl, rfl⟩)
    go_ret
    exact ⟨rfl, rfl⟩
  · rw [decide_eq_false h]
    by_cases h1 : (len : Int) ≤ 16777216
    · have v1 := within_f (v := n) (lo := 0) (hi := len) (fun g => h ⟨h1, g⟩)
      clear h
      go_enter Try.func26, Try.ntmps26
      go_wp2_with (go_at_call 39; refine (within_any _ _ _ _).mono ?_; rintro e w' ⟨rfl, rfl⟩)
      go_ret
      exact ⟨rfl, rfl⟩
    · clear h
      go_enter Try.func26, Try.ntmps26
      go_wp2
      go_ret
      exact ⟨rfl, rfl⟩
theorem rlong_any (a : Option Addr) (len cap : Nat) (n : Int) (w : World) :
    Calls Try.prog 29 #[.slice a len cap, .int .i64 n] w fun e w' => e = .returned (.bool (!decide (FOk len n))) ∧ w = w' := by
  by_cases h : FOk len n
  · rw [decide_eq_true h]
    obtain ⟨h1, h2, h3⟩ := h
    go_enter Try.func29, Try.ntmps29
    go_wp2
    go_ret
    exact ⟨ret_bool (by simp; omega), rfl⟩
  · rw [decide_eq_false h]
    rcases (show 16777216 < (len : Int) ∨ ((len : Int) ≤ 16777216 ∧ n < 0) ∨ ((len : Int) ≤ 16777216 ∧ 0 ≤ n ∧ (len : Int) < n) by unfold FOk at h; omega) with h1 | h1 | h1
    all_goals
      clear h
      go_enter Try.func29, Try.ntmps29
      go_wp2
      go_ret
      exact ⟨rfl, rfl⟩

/-- The first k steps of a fade, where the step i changes the element p i. -/
def fdL (l : List Int) (n : Nat) (p : Nat → Nat) : Nat → List Int
  | 0 => l
  | k + 1 => (fdL l n p k).set (p k) (gmul (l.getD (p k) 0) (gainV k n))
theorem fdL_len (l : List Int) (n : Nat) (p : Nat → Nat) (k : Nat) : (fdL l n p k).length = l.length := by
  induction k with
  | zero => rfl
  | succ k ih => simp only [fdL, List.length_set]; exact ih

theorem rgain_same (i n : Int) (w : World) (h1 : 0 ≤ i) (h2 : i < n) (h3 : n ≤ 16777216) :
    Calls Try.prog 25 #[.int .i64 i, .int .i64 n] w fun e w' => e = .returned (.int .i64 (gainV i n)) ∧ w' = w :=
  (rgain_any i n w h1 h2 h3).mono fun _ _ h => ⟨h.1, h.2.symm⟩
theorem rmul_same (a g : Int) (w : World) :
    Calls Try.prog 30 #[.int .i64 a, .int .i64 g] w fun e w' => e = .returned (.int .i64 (gmul a g)) ∧ w' = w :=
  (rmul_any a g w).mono fun _ _ h => ⟨h.1, h.2.symm⟩

set_option maxHeartbeats 1000000 in
theorem rin_ok (a : Option Addr) (b off len cap n : Nat) (l : List Int) (w : World) (hR : Row w a b off len l) (hn : n ≤ len) (hl : len ≤ 1000000) (hnc : a = none → cap = 0) :
    Calls Try.prog 15 #[.slice a len cap, .int .i64 n] w fun e w' => ∃ v, e = .returned (.tuple #[v, .int .i64 0]) ∧ Ints w' w.heap.size v (fdL l n (fun i => i) n) ∧ Below w.heap.size w w' := by
  have HL := Lib.hid hR.len
  have HR := Lib.hid hR; clear hR
  have hf : decide (FOk len n) = true := decide_eq_true ⟨by omega, by omega, by omega⟩
  go_enter Try.func15, Try.ntmps15
  go_wp2_with fail
  refine (rlong_any _ _ _ _ _).mono ?_; rintro e w' ⟨rfl, rfl⟩; rw [hf]
  go_wp2_with (at_builtin; refine wpList_append_row rfl (.tmp 11) (.tmp 12) rfl w.heap.size _ [] rfl (Ints.empty w) _ b off _ _ l rfl (HR.out.below ((Below.refl _ _).alloc (Nat.le_refl _) _) (Nat.le_refl _)) hnc (by simp; omega) (by simp) ?_; intro v1 w3 hO1 hB1 hgx; clear hgx; have hC1 := ((Below.refl w.heap.size w).alloc (Nat.le_refl _) _).trans hB1; rw [List.nil_append] at hO1)
  go_loopw [7] (fun i wr => ∃ k : Nat, k ≤ n ∧ i = .int .i64 k ∧ Ints wr w.heap.size v1 (fdL l n (fun i => i) k) ∧ Below w.heap.size w wr) (fun i _ => n - (intOf i).toNat)
  case atStart => exact ⟨0, Nat.zero_le _, rfl, hO1, hC1⟩
  case round =>
    obtain ⟨k, hk, rfl, hI, hB⟩ := hrel
    have hfl := (fdL_len l n (fun i => i) k).trans HL.out
    by_cases hlt : k < n
    · obtain rfl := HR.out.adr (by omega)
      obtain ⟨gb, cp, rfl, hgb⟩ := hI.inBlock hfl (by omega)
      have hcell := (HR.out.below hB (Nat.le_refl _)).cel k (by omega)
      have dn := hI.cellAt hfl k (by omega)
      have df := hI.freeAt hfl k
      have hT := (Ints.stored hfl hI k (gmul (l.getD k 0) (gainV k n))).drew
      have hS : fdL l n (fun i => i) (k + 1) = (fdL l n (fun i => i) k).set k (gmul (l.getD k 0) (gainV k n)) := rfl
      rw [← hS] at hT
      have q1 : (k : Int) < (len : Int) := by omega
      have h1 : (0 : Int) ≤ (k : Int) := by omega
      have h2 : (k : Int) < (n : Int) := by omega
      have h3 : (n : Int) ≤ 16777216 := by omega
      have HT := Lib.hid (show _ ∧ _ from ⟨hT, hB⟩); clear hT hB hI hO1 hB1 hC1 hS
      go_wp2_with fail
      go_still_tail 11, (by kernel_rfl)
      repeat still_step
      still_call (rgain_same _ _ _ h1 h2 h3)
      repeat still_step
      still_call (rmul_same _ _ _)
      repeat still_step
      refine wpStill_nil ?_
      go_wp2
      go_roundw
      case rel => exact ⟨k + 1, by omega, by go_num, HT.out.1, (HT.out.2.setCell (p := ⟨gb, k, none⟩) hgb _).drew⟩
      case measure => simp [intOf]; omega
    · obtain rfl : k = n := by omega
      go_wp2
      go_ret2
      exact ⟨_, rfl, hI, hB⟩

set_option maxHeartbeats 1000000 in
theorem rout_ok (a : Option Addr) (b off len cap n : Nat) (l : List Int) (w : World) (hR : Row w a b off len l) (hn : n ≤ len) (hl : len ≤ 1000000) (hnc : a = none → cap = 0) :
    Calls Try.prog 17 #[.slice a len cap, .int .i64 n] w fun e w' => ∃ v, e = .returned (.tuple #[v, .int .i64 0]) ∧ Ints w' w.heap.size v (fdL l n (fun i => len - 1 - i) n) ∧ Below w.heap.size w w' := by
  have HL := Lib.hid hR.len
  have HR := Lib.hid hR; clear hR
  have hf : decide (FOk len n) = true := decide_eq_true ⟨by omega, by omega, by omega⟩
  go_enter Try.func17, Try.ntmps17
  go_wp2_with fail
  refine (rlong_any _ _ _ _ _).mono ?_; rintro e w' ⟨rfl, rfl⟩; rw [hf]
  go_wp2_with (at_builtin; refine wpList_append_row rfl (.tmp 12) (.tmp 13) rfl w.heap.size _ [] rfl (Ints.empty w) _ b off _ _ l rfl (HR.out.below ((Below.refl _ _).alloc (Nat.le_refl _) _) (Nat.le_refl _)) hnc (by simp; omega) (by simp) ?_; intro v1 w3 hO1 hB1 hgx; clear hgx; have hC1 := ((Below.refl w.heap.size w).alloc (Nat.le_refl _) _).trans hB1; rw [List.nil_append] at hO1)
  go_loopw [7] (fun i wr => ∃ k : Nat, k ≤ n ∧ i = .int .i64 k ∧ Ints wr w.heap.size v1 (fdL l n (fun i => len - 1 - i) k) ∧ Below w.heap.size w wr) (fun i _ => n - (intOf i).toNat)
  case atStart => exact ⟨0, Nat.zero_le _, rfl, hO1, hC1⟩
  case round =>
    obtain ⟨k, hk, rfl, hI, hB⟩ := hrel
    have hfl := (fdL_len l n (fun i => len - 1 - i) k).trans HL.out
    by_cases hlt : k < n
    · obtain rfl := HR.out.adr (by omega)
      obtain ⟨p, hp⟩ : ∃ p, p = len - 1 - k := ⟨_, rfl⟩
      have z1 : IntKind.i64.wrap ((len : Int) - 1 - (k : Int)) = (p : Int) := by rw [IntKind.wrap_i64]; omega
      have z0 : (len : Int) - 1 - (k : Int) = (p : Int) := by omega
      have q2 : (p : Int) < (len : Int) := by omega
      obtain ⟨gb, cp, rfl, hgb⟩ := hI.inBlock hfl (by omega)
      have hcell := (HR.out.below hB (Nat.le_refl _)).cel p (by omega)
      have dn := hI.cellAt hfl p (by omega)
      have df := hI.freeAt hfl p
      have hT := (Ints.stored hfl hI p (gmul (l.getD p 0) (gainV k n))).drew
      have hS : fdL l n (fun i => len - 1 - i) (k + 1) = (fdL l n (fun i => len - 1 - i) k).set p (gmul (l.getD p 0) (gainV k n)) := by rw [hp]; rfl
      rw [← hS] at hT
      have q1 : (k : Int) < (len : Int) := by omega
      have h1 : (0 : Int) ≤ (k : Int) := by omega
      have h2 : (k : Int) < (n : Int) := by omega
      have h3 : (n : Int) ≤ 16777216 := by omega
      have HT := Lib.hid (show _ ∧ _ from ⟨hT, hB⟩); clear hT hB hI hO1 hB1 hC1 hS
      have HPP := Lib.hid hp; clear hp
      go_wp2_with fail
      go_still_tail 11, (by kernel_rfl)
      repeat still_step
      still_call (rgain_same _ _ _ h1 h2 h3)
      repeat still_step
      still_call (rmul_same _ _ _)
      repeat still_step
      refine wpStill_nil ?_
      go_wp2
      go_roundw
      case rel => exact ⟨k + 1, by omega, by go_num, HT.out.1, (HT.out.2.setCell (p := ⟨gb, p, none⟩) hgb _).drew⟩
      case measure => simp [intOf]; omega
    · obtain rfl : k = n := by omega
      go_wp2
      go_ret2
      exact ⟨_, rfl, hI, hB⟩

theorem rin_no (a : Option Addr) (len cap : Nat) (n : Int) (w : World) (h : ¬ FOk len n) :
    Calls Try.prog 15 #[.slice a len cap, .int .i64 n] w fun e w' => e = .returned (.tuple #[.slice none 0 0, .int .i64 1]) ∧ w = w' := by
  have hf : decide (FOk len n) = false := decide_eq_false h
  clear h
  go_enter Try.func15, Try.ntmps15
  go_wp2_with fail
  refine (rlong_any _ _ _ _ _).mono ?_; rintro e w' ⟨rfl, rfl⟩; rw [hf]
  go_wp2
  go_ret2
  exact ⟨rfl, rfl⟩

theorem rout_no (a : Option Addr) (len cap : Nat) (n : Int) (w : World) (h : ¬ FOk len n) :
    Calls Try.prog 17 #[.slice a len cap, .int .i64 n] w fun e w' => e = .returned (.tuple #[.slice none 0 0, .int .i64 1]) ∧ w = w' := by
  have hf : decide (FOk len n) = false := decide_eq_false h
  clear h
  go_enter Try.func17, Try.ntmps17
  go_wp2_with fail
  refine (rlong_any _ _ _ _ _).mono ?_; rintro e w' ⟨rfl, rfl⟩; rw [hf]
  go_wp2
  go_ret2
  exact ⟨rfl, rfl⟩
end Go.Proofs.Ytagikfiiljdpnaa
