/- The reference's Value, Values, Same, SameInts, Few of curves (layer 11). -/
import Derived.Test.YtafffmcmdhbghaaCrvROf
import Derived.Test.YtafffmcmdhbghaaOwnRow
namespace Go.Proofs.Ytafffmcmdhbghaa
open Go.ChangeShapes Go.WideShapes Go.ChangeAt Go.RowKit

set_option maxHeartbeats 2000000 in
theorem rcvalue_any (a : Option Addr) (b off n cap : Nat) (l : List Kt) (at' : Int) (w : World) (h : Ks w a n b off l) (hn : n ≤ 9223372036854775807) :
    Calls Try.prog 14 #[.slice a n cap, .int .i64 at'] w fun e w' => e = .returned (.tuple #[.int .i64 (valV l at'), .int .i64 (chkC l)]) ∧ Below w.heap.size w w' := by
  have HK := Lib.hid h
  clear h
  by_cases hch : Curve l
  · rw [valV_yes hch, chkC_yes hch]
    have hc := chkC_yes hch
    have HC := Lib.hid hch
    clear hch
    go_enter Try.func14, Try.ntmps14
    go_wp2_with fail
    refine (rccheck_any a b off n cap l _ HK.out hn).mono ?_; rintro e w1 ⟨rfl, hB⟩; rw [hc]
    go_wp2_with fail
    refine (rof_any a b off n cap l at' _ (HK.out.grown hB) HC.out).mono ?_; rintro e w2 ⟨rfl, hb⟩
    replace hB := below_after hB hb hB.size
    clear hb hc
    go_wp2
    exact bodyPost_ret (by simp [results, Try.results14, go_sem]) rfl ⟨rfl, hB⟩
  · rw [valV_no hch, chkC_no hch]
    have hc := chkC_no hch
    clear hch
    go_enter Try.func14, Try.ntmps14
    go_wp2_with fail
    refine (rccheck_any a b off n cap l _ HK.out hn).mono ?_; rintro e w1 ⟨rfl, hB⟩; rw [hc]
    clear hc
    go_wp2
    exact bodyPost_ret (by simp [results, Try.results14, go_sem]) rfl ⟨rfl, hB⟩

theorem rfew_any (a : Option Addr) (n cap : Nat) (w : World) : Calls Try.prog 12 #[.slice a n cap] w fun e w' => e = .returned (.bool (decide ((n : Int) ≤ 1100))) ∧ w' = w := by
  go_enter Try.func12, Try.ntmps12
  go_wp2
  go_ret
  exact ⟨rfl, rfl⟩

theorem vals_succ (l : List Kt) (f : Int) (k : Nat) : vals l f (k + 1) = vals l f k ++ [valC l (f + (k : Int))] := by
  unfold vals
  rw [List.range_succ, List.map_append]; rfl
theorem vals_len (l : List Kt) (f : Int) (n : Nat) : (vals l f n).length = n := by simp [vals]

set_option maxHeartbeats 4000000 in
theorem rcvalues_any (a : Option Addr) (b off n cap : Nat) (l : List Kt) (f N : Int) (w : World) (h : Ks w a n b off l) (hn : n ≤ 9223372036854775807) :
    Calls Try.prog 18 #[.slice a n cap, .int .i64 f, .int .i64 N] w fun e w' => ValsR l f N w e w' ∧ Below w.heap.size w w' := by
  have HK := Lib.hid h
  clear h
  unfold ValsR
  by_cases hch : Curve l
  case neg =>
    have e := valsE_no (f := f) (n := N) hch
    rw [e]
    have hc := chkC_no hch
    clear hch e
    go_enter Try.func18, Try.ntmps18
    go_wp2_with fail
    refine (rccheck_any a b off n cap l _ HK.out hn).mono ?_; rintro e w1 ⟨rfl, hB⟩; rw [hc]
    clear hc
    go_wp2
    exact bodyPost_ret (by simp [results, Try.results18, go_sem]) rfl ⟨.inl ⟨by decide, rfl⟩, hB⟩
  have hc := chkC_yes hch
  have HC := Lib.hid hch
  clear hch
  by_cases q1 : f < -1099511627776
  · have e := valsE_arg (l := l) (f := f) (n := N) HC.out (fun h => by omega)
    rw [e]
    clear e
    go_enter Try.func18, Try.ntmps18
    go_wp2_with fail
    refine (rccheck_any a b off n cap l _ HK.out hn).mono ?_; rintro e w1 ⟨rfl, hB⟩; rw [hc]
    clear hc
    go_wp2
    exact bodyPost_ret (by simp [results, Try.results18, go_sem]) rfl ⟨.inl ⟨by decide, rfl⟩, hB⟩
  by_cases q2 : 1099511627776 < f
  · have e := valsE_arg (l := l) (f := f) (n := N) HC.out (fun h => by omega)
    rw [e]
    clear e
    go_enter Try.func18, Try.ntmps18
    go_wp2_with fail
    refine (rccheck_any a b off n cap l _ HK.out hn).mono ?_; rintro e w1 ⟨rfl, hB⟩; rw [hc]
    clear hc
    go_wp2
    exact bodyPost_ret (by simp [results, Try.results18, go_sem]) rfl ⟨.inl ⟨by decide, rfl⟩, hB⟩
  by_cases q3 : N < 0
  · have e := valsE_arg (l := l) (f := f) (n := N) HC.out (fun h => by omega)
    rw [e]
    have z3 : decide (N < 0) = true := decide_eq_true q3
    clear e
    go_enter Try.func18, Try.ntmps18
    go_wp2_with fail
    refine (rccheck_any a b off n cap l _ HK.out hn).mono ?_; rintro e w1 ⟨rfl, hB⟩; rw [hc]
    clear hc
    go_wp2
    exact bodyPost_ret (by simp [results, Try.results18, go_sem]) rfl ⟨.inl ⟨by decide, rfl⟩, hB⟩
  have z3 : decide (N < 0) = false := decide_eq_false q3
  by_cases q4 : 65536 < N
  · have e := valsE_lim (l := l) (f := f) (n := N) HC.out ⟨by omega, by omega⟩ (by omega)
    rw [e]
    clear e
    go_enter Try.func18, Try.ntmps18
    go_wp2_with fail
    refine (rccheck_any a b off n cap l _ HK.out hn).mono ?_; rintro e w1 ⟨rfl, hB⟩; rw [hc]
    clear hc
    go_wp2
    exact bodyPost_ret (by simp [results, Try.results18, go_sem]) rfl ⟨.inl ⟨by decide, rfl⟩, hB⟩
  obtain ⟨M, rfl⟩ : ∃ M : Nat, N = M := ⟨N.toNat, by omega⟩
  have e := valsE_ok (l := l) (f := f) (n := M) HC.out ⟨by omega, by omega⟩ (by omega)
  rw [e]
  have hM : M ≤ 65536 := by omega
  clear e
  go_enter Try.func18, Try.ntmps18
  go_wp2_with fail
  refine (rccheck_any a b off n cap l _ HK.out hn).mono ?_; rintro e w1 ⟨rfl, hB⟩; rw [hc]
  clear hc
  have HB1 := Lib.hid hB
  have hs1 := hB.size
  clear hB
  go_wp2
  go_loopw [8, 9] (fun v i wr => ∃ k : Nat, k ≤ M ∧ i = .int .i64 k ∧ Ints wr w.heap.size v (vals l f k) ∧ Below w.heap.size w wr) (fun _ i _ => M - (intOf i).toNat)
  case atStart => exact ⟨0, Nat.zero_le _, rfl, (Ints.empty w1).mono hs1, HB1.out.alloc hs1 _⟩
  case round =>
    obtain ⟨k, hk, rfl, hO, hB⟩ := hrel
    have HI2 := Lib.hid (show _ ∧ _ from ⟨hO, hB⟩)
    clear HB1
    by_cases hlt : k < M
    · have i2 : (k : Int) < (M : Int) := by omega
      have uf : IntKind.i64.wrap (f + (k : Int)) = f + (k : Int) := wrap_id (by omega)
      have uk : IntKind.i64.wrap ((k : Int) + 1) = (k : Int) + 1 := wrap_id (by omega)
      have hs := hB.size
      clear hO hB
      go_wp2_with (first | (go_at_call 25; refine (rof_any a b off n cap l (f + (k : Int)) _ (HK.out.grown HI2.out.2) HC.out).mono ?_; rintro e w5 ⟨rfl, hb5⟩; have hO5 := HI2.out.1.below hb5 (Nat.le_refl _); have hB5 := below_after HI2.out.2 hb5 HI2.out.2.size; have hs5 := hB5.size; clear hb5) | (at_builtin; refine wpList_append_int rfl _ _ rfl w.heap.size _ _ rfl (hO5.alloc _) _ _ rfl _ _ (blk_new _ _) (by rw [vals_len]; omega) (by simp; omega) ?_; intro v' w6 hO6 hB6 hgx; have HO6 := Lib.hid (show _ ∧ _ from ⟨hO6, (hB5.alloc hs5 _).trans hB6⟩); clear hgx hO6 hB6 hO5 hB5))
      go_roundw
      case rel => exact ⟨k + 1, by omega, by go_num, by rw [vals_succ]; exact HO6.out.1, HO6.out.2⟩
      case measure => simp [intOf] <;> omega
    · obtain rfl : k = M := by omega
      clear hO hB
      go_wp2
      exact bodyPost_ret (by simp [results, Try.results18, go_sem]) rfl ⟨.inr ⟨trivial, HC.out, ⟨by omega, by omega⟩, k, rfl, hM, _, rfl, HI2.out.1⟩, HI2.out.2⟩

set_option maxHeartbeats 1000000 in
theorem rsameInts_any (a a' : Option Addr) (b b' off off' n n' cap cap' : Nat) (l l' : List Int) (w : World) (h : Row w a b off n l) (h' : Row w a' b' off' n' l') (hn : n ≤ 16777216) (he : l = l') :
    Calls Try.prog 19 #[.slice a n cap, .slice a' n' cap'] w fun e w' => e = .returned (.bool true) ∧ Below w.heap.size w w' := by
  subst he
  obtain rfl : n = n' := by rw [← h.len, h'.len]
  have HR := Lib.hid h; have HR' := Lib.hid h'; clear h h'
  go_enter Try.func19, Try.ntmps19
  go_wp2
  go_loopw [5] (fun i wr => ∃ k : Nat, k ≤ n ∧ i = .int .i64 k ∧ Below w.heap.size w wr) (fun i _ => n - (intOf i).toNat)
  case atStart => exact ⟨0, Nat.zero_le _, rfl, Below.refl _ _⟩
  case round =>
    obtain ⟨k, hk, rfl, hB⟩ := hrel
    by_cases hlt : k < n
    · obtain rfl := HR.out.adr (by omega)
      obtain rfl := HR'.out.adr (by omega)
      have c0 := (HR.out.below hB (Nat.le_refl _)).cel k hlt
      have d0 := (HR'.out.below hB (Nat.le_refl _)).cel k hlt
      generalize l.getD k 0 = x at *
      go_wp2
      go_quiet (fail)
      go_wp2
      go_roundw
      case rel => exact ⟨k + 1, by omega, by go_num, below_drewN hB _⟩
      case measure => simp [intOf]; omega
    · obtain rfl : k = n := by omega
      go_wp2
      go_ret
      exact ⟨rfl, hB⟩

set_option maxHeartbeats 1000000 in
theorem rsameK_any (a a' : Option Addr) (b b' off off' n n' cap cap' : Nat) (l l' : List Kt) (w : World) (h : Ks w a n b off l) (h' : Ks w a' n' b' off' l') (hn : n ≤ 16777216) (he : l = l') :
    Calls Try.prog 22 #[.slice a n cap, .slice a' n' cap'] w fun e w' => e = .returned (.bool true) ∧ Below w.heap.size w w' := by
  subst he
  obtain rfl : n = n' := by rw [← h.1, h'.1]
  have HR := Lib.hid h; have HR' := Lib.hid h'; clear h h'
  go_enter Try.func22, Try.ntmps22
  go_wp2
  go_loopw [5] (fun i wr => ∃ k : Nat, k ≤ n ∧ i = .int .i64 k ∧ Below w.heap.size w wr) (fun i _ => n - (intOf i).toNat)
  case atStart => exact ⟨0, Nat.zero_le _, rfl, Below.refl _ _⟩
  case round =>
    obtain ⟨k, hk, rfl, hB⟩ := hrel
    by_cases hlt : k < n
    · obtain ⟨rfl, _⟩ := HR.out.2.1 (by omega)
      obtain ⟨rfl, _⟩ := HR'.out.2.1 (by omega)
      obtain ⟨c0, c1, c2, c3, c4⟩ := (HR.out.grown hB).2.2 k hlt
      obtain ⟨d0, d1, d2, d3, d4⟩ := (HR'.out.grown hB).2.2 k hlt
      generalize hx : nthK l k = x at *
      obtain ⟨x0, x1, x2, x3, x4⟩ := x
      have HX := Lib.hid hx; clear hx
      dsimp only at c0 c1 c2 c3 c4 d0 d1 d2 d3 d4
      go_wp2
      go_quiet (fail)
      go_wp2
      go_roundw
      case rel => exact ⟨k + 1, by omega, by go_num, below_drewN hB _⟩
      case measure => simp [intOf]; omega
    · obtain rfl : k = n := by omega
      go_wp2
      go_ret
      exact ⟨rfl, hB⟩
end Go.Proofs.Ytafffmcmdhbghaa
