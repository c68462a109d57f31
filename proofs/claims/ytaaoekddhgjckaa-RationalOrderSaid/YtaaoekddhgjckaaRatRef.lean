/- Contracts of the specification's functions of layer 7. -/
import Derived.Test.YtaaoekddhgjckaaRatMain
namespace Go.Proofs.Ytaaoekddhgjckaa
open Go.ChangeShapes Go.WideShapes Go.ChangeAt Go.RowKit

theorem rsize_any (n : Int) (w : World) (h1 : -9223372036854775807 ≤ n) (h2 : n ≤ 9223372036854775807) :
    Calls Try.prog 40 #[.int .i64 n] w fun e w' => e = .returned (.int .i64 n.natAbs) ∧ w' = w := by
  go_enter Try.func40, Try.ntmps40
  go_wp2
  all_goals (go_ret; exact ⟨ret_int (by omega), rfl⟩)

theorem rdiv_step {a b : Nat} : Nat.gcd b (a % b) = Nat.gcd a b := by
  rw [Nat.gcd_comm a b, Nat.gcd_rec b a, Nat.gcd_comm]

set_option maxHeartbeats 400000 in
theorem rdivisor_any (a b : Nat) (w : World) (ha : a ≤ 9223372036854775807) (hb : b ≤ 9223372036854775807) :
    Calls Try.prog 39 #[.int .i64 a, .int .i64 b] w fun e w' => e = .returned (.int .i64 (Nat.gcd a b : Nat)) ∧ w' = w := by
  go_enter Try.func39, Try.ntmps39
  go_wp2
  go_loop [0, 1] (fun x y => ∃ p q : Nat, x = .int .i64 p ∧ y = .int .i64 q ∧ p ≤ 9223372036854775807 ∧ q ≤ 9223372036854775807 ∧ Nat.gcd p q = Nat.gcd a b) (fun _ y => (intOf y).toNat)
  case atStart => exact ⟨a, b, rfl, rfl, ha, hb, rfl⟩
  case round =>
    obtain ⟨p, q, rfl, rfl, hp, hq, hg⟩ := hrel
    have HG := Lib.hid hg; clear hg
    by_cases h0 : 0 < q
    · have hne : ((q : Int) == 0) = false := by simp; omega
      have hm := Nat.mod_lt p h0
      have e : (p : Int) % q = ((p % q : Nat) : Int) := by simp
      generalize hr : p % q = r at *
      have HR := Lib.hid hr; have HE := Lib.hid e; clear hr e
      go_wp2
      rw [HE.out]
      go_round
      case rel => exact ⟨q, r, rfl, rfl, hq, by omega, by rw [← HR.out, rdiv_step]; exact HG.out⟩
      case measure => simp [intOf]; omega
    · obtain rfl : q = 0 := by omega
      go_wp2
      go_ret
      exact ⟨ret_int (by rw [← HG.out]; simp), rfl⟩

theorem down_tdiv {a b : Int} : (a < a.tdiv b * b ↔ a.tmod b < 0) := by
  have e := Int.mul_tdiv_add_tmod a b
  rw [Int.mul_comm] at e
  omega
theorem rdown_any (a b : Int) (w : World) (hb : 0 < b) (hb2 : b ≤ 2147483647) (ha1 : -2147483647 ≤ a) (ha2 : a ≤ 2147483647) :
    Calls Try.prog 38 #[.int .i64 a, .int .i64 b] w fun e w' => e = .returned (.int .i64 (a / b)) ∧ w' = w := by
  have hq := ediv_in hb ha1 ha2 (by omega) (by omega)
  have ht := tdiv_bd a (g := b) 2147483647 ha1 ha2
  have hm := pr_bd ht.1 ht.2 hb hb2
  have hd := down_tdiv (a := a) (b := b)
  by_cases h : a.tmod b < 0
  · have e := tdiv_neg' hb h
    have hlt := hd.2 h
    clear hd
    have E := Lib.hid e; clear e
    go_enter Try.func38, Try.ntmps38
    go_wp2
    go_ret
    exact ⟨ret_int E.out, rfl⟩
  · have e := tdiv_pos' (a := a) hb (by omega)
    have hlt : ¬ a < a.tdiv b * b := fun k => h (hd.1 k)
    clear hd h
    have E := Lib.hid e; clear e
    go_enter Try.func38, Try.ntmps38
    go_wp2
    go_ret
    exact ⟨ret_int E.out, rfl⟩

def validB (n d : Int) : Bool := decide (Valid n d)
set_option maxHeartbeats 1000000 in
theorem rvalid_any (n d : Int) (w : World) :
    Calls Try.prog 31 #[.agg #[.int .i64 n, .int .i64 d]] w fun e w' => e = .returned (.bool (validB n d)) ∧ Below w.heap.size w w' := by
  by_cases c1 : 1 ≤ d
  · by_cases c2 : d ≤ 2147483647
    · by_cases c3 : -2147483647 ≤ n
      · by_cases c4 : n ≤ 2147483647
        · obtain ⟨D, rfl⟩ := Int.eq_ofNat_of_zero_le (show 0 ≤ d by omega)
          have hg : Nat.gcd n.natAbs D = Int.gcd n D := rfl
          by_cases c5 : Int.gcd n D = 1
          · have e : validB n D = true := decide_eq_true ⟨c1, c2, c3, c4, c5⟩
            have g5 : ((Nat.gcd n.natAbs D : Int) == 1) = true := by rw [hg, c5]; rfl
            clear c5 hg
            rw [e]
            clear e
            go_enter Try.func31, Try.ntmps31
            go_wp2
            go_quiet ((first | (go_at_call 40; exact Calls.quiet_of_same (rsize_any _ _ (by omega) (by omega))) | (go_at_call 39; exact Calls.quiet_of_same (rdivisor_any _ _ _ (by omega) (by omega)))))
            go_wp2
            go_ret
            exact ⟨by simp, below_drewN (by go_grown) _⟩
          · have e : validB n D = false := decide_eq_false fun k => c5 k.2.2.2.2
            have g5 : ((Nat.gcd n.natAbs D : Int) == 1) = false := by rw [hg]; simp; omega
            clear c5 hg
            rw [e]
            clear e
            go_enter Try.func31, Try.ntmps31
            go_wp2
            go_quiet ((first | (go_at_call 40; exact Calls.quiet_of_same (rsize_any _ _ (by omega) (by omega))) | (go_at_call 39; exact Calls.quiet_of_same (rdivisor_any _ _ _ (by omega) (by omega)))))
            go_wp2
            go_ret
            exact ⟨by simp, below_drewN (by go_grown) _⟩
        · have e : validB n d = false := decide_eq_false fun k => c4 k.2.2.2.1
          have g4 : decide (n ≤ 2147483647) = false := decide_eq_false c4
          rw [e]
          clear e
          go_enter Try.func31, Try.ntmps31
          go_wp2
          go_quiet (fail)
          go_wp2
          go_ret
          exact ⟨by simp, below_drewN (by go_grown) _⟩
      · have e : validB n d = false := decide_eq_false fun k => c3 k.2.2.1
        have g4 : decide (-2147483647 ≤ n) = false := decide_eq_false c3
        rw [e]
        clear e
        go_enter Try.func31, Try.ntmps31
        go_wp2
        go_quiet (fail)
        go_wp2
        go_ret
        exact ⟨by simp, below_drewN (by go_grown) _⟩
    · have e : validB n d = false := decide_eq_false fun k => c2 k.2.1
      have g4 : decide (d ≤ 2147483647) = false := decide_eq_false c2
      rw [e]
      clear e
      go_enter Try.func31, Try.ntmps31
      go_wp2
      go_quiet (fail)
      go_wp2
      go_ret
      exact ⟨by simp, below_drewN (by go_grown) _⟩
  · have e : validB n d = false := decide_eq_false fun k => c1 k.1
    have g4 : decide (1 ≤ d) = false := decide_eq_false c1
    rw [e]
    clear e
    go_enter Try.func31, Try.ntmps31
    go_wp2
    go_quiet (fail)
    go_wp2
    go_ret
    exact ⟨by simp, below_drewN (by go_grown) _⟩

theorem rcheck_any (n d : Int) (w : World) :
    Calls Try.prog 14 #[.agg #[.int .i64 n, .int .i64 d]] w fun e w' => e = .returned (.int .i64 (ratOk n d)) ∧ Below w.heap.size w w' := by
  by_cases hv : Valid n d
  · have e : validB n d = true := decide_eq_true hv
    rw [ok_yes hv]; clear hv
    go_enter Try.func14, Try.ntmps14
    go_wp2_with fail
    refine (rvalid_any _ _ _).mono ?_; rintro e1 w1 ⟨rfl, hb1⟩; rw [e]
    go_wp2
    go_ret
    exact ⟨rfl, below_after (by go_grown) hb1 (by simp)⟩
  · have e : validB n d = false := decide_eq_false hv
    rw [ok_no hv]; clear hv
    go_enter Try.func14, Try.ntmps14
    go_wp2_with fail
    refine (rvalid_any _ _ _).mono ?_; rintro e1 w1 ⟨rfl, hb1⟩; rw [e]
    go_wp2
    go_ret
    exact ⟨rfl, below_after (by go_grown) hb1 (by simp)⟩

def rdN (n d : Int) : Int := if Fits n d then redN n d else 0
def rdD (n d : Int) : Int := if Fits n d then redD n d else 0
def fitB (n d : Int) : Bool := decide (Fits n d)
theorem abs_div {n d : Int} (h : d ≠ 0) : (if d < 0 then -n else n).tdiv (Int.gcd n d) = redN n d ∧ (if d < 0 then -d else d).tdiv (Int.gcd n d) = redD n d := by
  have h1 : (Int.gcd n d : Int) ∣ n := Int.gcd_dvd_left n d
  have h2 : (Int.gcd n d : Int) ∣ d := Int.gcd_dvd_right n d
  rcases red_form (n := n) h with ⟨e1, e2, p, _⟩ | ⟨e1, e2, p, _⟩
  · rw [if_neg (by omega), if_neg (by omega), e1, e2]
    exact ⟨Int.tdiv_eq_ediv_of_dvd h1, Int.tdiv_eq_ediv_of_dvd h2⟩
  · rw [if_pos p, if_pos p, e1, e2, Int.neg_tdiv, Int.neg_tdiv, Int.tdiv_eq_ediv_of_dvd h1, Int.tdiv_eq_ediv_of_dvd h2]
    exact ⟨rfl, rfl⟩
end Go.Proofs.Ytaaoekddhgjckaa
