/- Contracts of reduce, Make, Add, Mul (layer 7). -/
import Derived.Test.YtaaoekddhgjckaaRatLeaf
import Derived.Defers
import Derived.Recover
import Derived.RegionTactic
import Derived.ChangeAlike
namespace Go.Proofs.Ytaaoekddhgjckaa
open Go.ChangeShapes Go.WideShapes Go.ChangeAt Go.RowKit

def gs (n d : Int) : Int := Int.gcd n d * sgn d
def redN (n d : Int) : Int := n.tdiv (gs n d)
def redD (n d : Int) : Int := d.tdiv (gs n d)
theorem sgn_cases {d : Int} (h : d ≠ 0) : (sgn d = 1 ∧ 0 < d) ∨ (sgn d = -1 ∧ d < 0) := by
  unfold sgn; repeat' split <;> omega
theorem gcd_bd {n d : Int} (h : d ≠ 0) : 1 ≤ (Int.gcd n d : Int) ∧ (Int.gcd n d : Int) ≤ d.natAbs := by
  have h1 : 0 < Int.gcd n d := Int.gcd_pos_of_ne_zero_right n h
  have h2 : Int.gcd n d ≤ d.natAbs := Nat.le_of_dvd (by omega) (Int.gcd_dvd_natAbs_right n d)
  omega
theorem gs_ne {n d : Int} (h : d ≠ 0) : gs n d ≠ 0 ∧ -(d.natAbs : Int) ≤ gs n d ∧ gs n d ≤ d.natAbs := by
  have := gcd_bd (n := n) h
  unfold gs
  rcases sgn_cases h with ⟨e, _⟩ | ⟨e, _⟩ <;> rw [e] <;> omega
theorem tdiv_bd (n : Int) {g : Int} (B : Int) (h1 : -B ≤ n) (h2 : n ≤ B) : -B ≤ n.tdiv g ∧ n.tdiv g ≤ B := by
  have e : (n.tdiv g).natAbs = n.natAbs / g.natAbs := Int.natAbs_tdiv n g
  have l : n.natAbs / g.natAbs ≤ n.natAbs := Nat.div_le_self _ _
  omega

set_option maxHeartbeats 1000000 in
theorem reduce_ok (n d : Int) (w : World) (hd : d ≠ 0) (d1 : -4611686018427387904 ≤ d) (d2 : d ≤ 4611686018427387904) (n1 : -9223372036854775807 ≤ n) (n2 : n ≤ 9223372036854775807) (hv : ratOk (redN n d) (redD n d) = 0) :
    Calls Try.prog 28 #[.int .i64 n, .int .i64 d] w fun e w' => e = .returned (.agg #[.int .i64 (redN n d), .int .i64 (redD n d)]) ∧ Below w.heap.size w w' := by
  obtain ⟨g0, g1, g2⟩ := gs_ne (n := n) hd
  obtain ⟨b1, b2⟩ := tdiv_bd n (g := gs n d) 9223372036854775807 n1 n2
  obtain ⟨b3, b4⟩ := tdiv_bd d (g := gs n d) 4611686018427387904 d1 d2
  have gz : (gs n d == 0) = false := by simpa using g0
  have hgs : gs n d = Int.gcd n d * sgn d := rfl
  have HGS := Lib.hid hgs; clear hgs
  have HV := Lib.hid hv; clear hv
  go_enter Try.func28, Try.ntmps28
  go_wp2_with fail
  refine (divisor_two' _ _ _ n d _ (by omega) (by omega) (by omega) (by omega) (by go_cell) (by go_cell)).mono ?_
  rintro e w1 ⟨rfl, hb1⟩
  go_wp2_with (go_at_call 35; refine (sign_any _ _).mono ?_; rintro e w' ⟨rfl, rfl⟩)
  rw [show wrap64 ((Int.gcd n d : Int) * sgn d) = gs n d from by rw [← HGS.out]; exact IntWalk.wrap64_in _ (by omega)]
  have k1 := blk_below (blk_alloc (blk_new w _) _) hb1 (by simp; omega)
  have z1 := hb1.size
  simp at z1
  go_region
  go_wp2_with fail
  refine (check_any _ _ _).mono ?_
  rintro e w2 ⟨rfl, hb2⟩
  rw [show ratOk (n.tdiv (gs n d)) (d.tdiv (gs n d)) = 0 from HV.out]
  have k2 := blk_below (blk_drew (blk_alloc k1 _)) hb2 (by simp; omega)
  have k3 := blk_below (blk_drew (blk_new w1 _)) hb2 (by simp)
  have z2 := hb2.size
  simp at z2
  have c0 := blk_cell k2 0; have c1 := blk_cell k2 1; have f0 := blk_free k2 0; have f1 := blk_free k2 1
  have c2 := blk_cell k3 0; have c3 := blk_cell k3 1
  have K := Lib.hid k2
  have B := below_after (below_after (by go_grown : Below w.heap.size w ((w.alloc (.cells #[.int .i64 0, .int .i64 0] 23)).alloc (.cells #[.int .i64 n, .int .i64 d] 3))) hb1 (by simp; omega) |>.alloc (by omega) _ |>.drew) hb2 (by simp; omega)
  clear k1 k2 k3 hb1 hb2
  simp at c0 c1 c2 c3
  go_wp2
  exact bodyPost_ret (v := .agg #[.int .i64 (n.tdiv (gs n d)), .int .i64 (d.tdiv (gs n d))]) (by simp [results, Try.results28, go_sem, c0, c1]) rfl ⟨rfl, by go_grown⟩
set_option maxHeartbeats 1000000 in
theorem reduce_no (n d : Int) (w : World) (hd : d ≠ 0) (d1 : -4611686018427387904 ≤ d) (d2 : d ≤ 4611686018427387904) (n1 : -9223372036854775807 ≤ n) (n2 : n ≤ 9223372036854775807) (hv : ratOk (redN n d) (redD n d) = 70) :
    Calls Try.prog 28 #[.int .i64 n, .int .i64 d] w fun e w' => e = .panicked [{ v := .iface 55 (.agg #[]), recovered := false }] ∧ Below w.heap.size w w' := by
  obtain ⟨g0, g1, g2⟩ := gs_ne (n := n) hd
  obtain ⟨b1, b2⟩ := tdiv_bd n (g := gs n d) 9223372036854775807 n1 n2
  obtain ⟨b3, b4⟩ := tdiv_bd d (g := gs n d) 4611686018427387904 d1 d2
  have gz : (gs n d == 0) = false := by simpa using g0
  have hgs : gs n d = Int.gcd n d * sgn d := rfl
  have HGS := Lib.hid hgs; clear hgs
  have HV := Lib.hid hv; clear hv
  go_enter Try.func28, Try.ntmps28
  go_wp2_with fail
  refine (divisor_two' _ _ _ n d _ (by omega) (by omega) (by omega) (by omega) (by go_cell) (by go_cell)).mono ?_
  rintro e w1 ⟨rfl, hb1⟩
  go_wp2_with (go_at_call 35; refine (sign_any _ _).mono ?_; rintro e w' ⟨rfl, rfl⟩)
  rw [show wrap64 ((Int.gcd n d : Int) * sgn d) = gs n d from by rw [← HGS.out]; exact IntWalk.wrap64_in _ (by omega)]
  have k1 := blk_below (blk_alloc (blk_new w _) _) hb1 (by simp; omega)
  have z1 := hb1.size
  simp at z1
  go_region
  go_wp2_with fail
  refine (check_any _ _ _).mono ?_
  rintro e w2 ⟨rfl, hb2⟩
  rw [show ratOk (n.tdiv (gs n d)) (d.tdiv (gs n d)) = 70 from HV.out]
  have k2 := blk_below (blk_drew (blk_alloc k1 _)) hb2 (by simp; omega)
  have k3 := blk_below (blk_drew (blk_new w1 _)) hb2 (by simp)
  have z2 := hb2.size
  simp at z2
  have c0 := blk_cell k2 0; have c1 := blk_cell k2 1; have f0 := blk_free k2 0; have f1 := blk_free k2 1
  have c2 := blk_cell k3 0; have c3 := blk_cell k3 1
  have K := Lib.hid k2
  have B := below_after (below_after (by go_grown : Below w.heap.size w ((w.alloc (.cells #[.int .i64 0, .int .i64 0] 23)).alloc (.cells #[.int .i64 n, .int .i64 d] 3))) hb1 (by simp; omega) |>.alloc (by omega) _ |>.drew) hb2 (by simp; omega)
  clear k1 k2 k3 hb1 hb2
  simp at c0 c1 c2 c3
  go_wp2
  exact ⟨rfl, rfl, B⟩

theorem fitted_any (p q : Nat) (x0 x1 y0 : Value) (w : World) (n2 : ¬ q = p) (hp : w.heap[p]? = some (.cells #[x0, x1] 23 (0, 0))) (hq : w.heap[q]? = some (.cells #[y0] 25 (0, 0))) :
    Calls Try.prog 27 #[.pointer (some ⟨p, 0, none⟩), .pointer (some ⟨q, 0, none⟩)] w fun e w' => e = .returned (.tuple #[]) ∧ w' = ((w.setCell ⟨p, 0, none⟩ (.int .i64 0)).setCell ⟨p, 1, none⟩ (.int .i64 0)).setCell ⟨q, 0, none⟩ (.int .i64 70) := by
  have c0 := blk_cell hp 0; have c1 := blk_cell hp 1; have f0 := blk_free hp 0; have f1 := blk_free hp 1
  have d0 := blk_cell hq 0; have g0 := blk_free hq 0
  simp at c0 c1 d0
  clear hp hq
  go_enter Try.func27, Try.ntmps27
  go_wp2
  go_end0
  exact ⟨rfl, rfl⟩

theorem catch_idle (p q : Addr) (w : World) :
    CallsD Try.prog 26 #[.pointer (some p), .pointer (some q)] .returning w fun e u' w' =>
      e = .returned (.tuple #[]) ∧ u' = .returning ∧ w' = w := by
  refine callsD_of_wpS Try.func26 rfl fun c₀ cs hu => ?_
  apply wpS_seq
  apply wpS_region
  simp [wpOpsS, go_sem, recoverD, hu, Try.ntmps26, Exit.thenS]
  refine wpS_cond (t := false) (by simp [Act.eval, Array.replicate]) ?_
  simp only [Bool.false_eq_true, if_false]
  refine wpS_of_wp (wp_skip ?_)
  cases c₀
  simp_all [bodyPostS, results, Try.results26]

theorem catch_panicking (p q : Nat) (x0 x1 y0 : Value) (u : TypeId) (pv : Value) (older : List PanicEntry) (w : World) (n2 : ¬ q = p) (hp : w.heap[p]? = some (.cells #[x0, x1] 23 (0, 0))) (hq : w.heap[q]? = some (.cells #[y0] 25 (0, 0))) :
    CallsD Try.prog 26 #[.pointer (some ⟨p, 0, none⟩), .pointer (some ⟨q, 0, none⟩)] (.panicking ({ v := .iface u pv, recovered := false } :: older)) w fun e u' w' =>
      e = .returned (.tuple #[]) ∧ u' = .panicking ({ v := .iface u pv, recovered := true } :: older) ∧ w' = ((w.setCell ⟨p, 0, none⟩ (.int .i64 0)).setCell ⟨p, 1, none⟩ (.int .i64 0)).setCell ⟨q, 0, none⟩ (.int .i64 70) := by
  refine callsD_of_wpS Try.func26 rfl fun c₀ cs hu => ?_
  apply wpS_seq
  apply wpS_region
  simp [wpOpsS, go_sem, recoverD, hu, Try.ntmps26, Exit.thenS]
  refine wpS_cond (t := true) (by simp [Act.eval, Array.replicate]) ?_
  simp only [if_true]
  refine wpS_of_wp ?_
  simp only [Array.replicate_succ, Array.replicate_zero, List.push_toArray, List.append_toArray, List.nil_append, List.cons_append, List.setIfInBounds_toArray, List.set_cons_succ, List.set_cons_zero]
  go_wp2_with (go_at_call 27; refine (fitted_any _ _ _ _ _ _ n2 hp hq).mono ?_; rintro e w' ⟨rfl, rfl⟩)
  simp [bodyPostS, results, Try.results26]

set_option maxHeartbeats 1000000 in
theorem make_ok (n d : Int) (w : World) (hd : d ≠ 0) (d1 : -4611686018427387904 ≤ d) (d2 : d ≤ 4611686018427387904) (n1 : -4611686018427387904 ≤ n) (n2 : n ≤ 4611686018427387904) (hv : ratOk (redN n d) (redD n d) = 0) :
    Calls Try.prog 11 #[.int .i64 n, .int .i64 d] w fun e w' => e = .returned (.tuple #[.agg #[.int .i64 (redN n d), .int .i64 (redD n d)], .int .i64 0]) ∧ Below w.heap.size w w' := by
  have wn := within_t ⟨n1, n2⟩
  have wd := within_t ⟨d1, d2⟩
  have hd' : (d == 0) = false := by simpa using hd
  have hmf : ∀ (fn : Fn) (first cap : Array Value) (w : World), (Instr.makeFunc fn first cap).run Try.prog w = .ok (.func fn first cap) w := fun _ _ _ _ => rfl
  go_enter_defers Try.func11, Try.ntmps11
  go_wp2_with (first | (go_at_call 25; refine (within_any _ _ _ _).mono ?_; rintro e w' ⟨rfl, rfl⟩))
  refine (reduce_ok n d _ hd d1 d2 (by omega) (by omega) hv).mono ?_
  rintro e w1 ⟨rfl, hb1⟩
  have k0 := blk_below (blk_alloc (blk_new w _) _) hb1 (by simp; omega)
  have k1 := blk_below (blk_new _ _) hb1 (by simp)
  have c0 := blk_cell k0 0; have c1 := blk_cell k0 1; have f0 := blk_free k0 0; have f1 := blk_free k0 1
  have c2 := blk_cell k1 0; have f2 := blk_free k1 0
  simp at c0 c1 c2 f2
  have B := below_after (by go_grown : Below w.heap.size w ((w.alloc (.cells #[.int .i64 0, .int .i64 0] 23)).alloc (.cells #[.int .i64 0] 25))) hb1 (by simp; omega)
  clear k0 k1 hb1
  go_wp2
  refine leaves_cons (f := 26) (args := #[.pointer (some ⟨w.heap.size, 0, none⟩), .pointer (some ⟨w.heap.size + 1, 0, none⟩)]) (by simp) (by simp [go_sem]) ?_
  refine (catch_idle _ _ _).mono ?_
  rintro e u' w'' ⟨rfl, rfl, rfl⟩
  exact ⟨.tuple #[.agg #[.int .i64 (redN n d), .int .i64 (redD n d)], .int .i64 0], by simp [results, Try.results11, go_sem, c0, c1, c2], rfl, by go_grown⟩
set_option maxHeartbeats 1000000 in
theorem make_no (n d : Int) (w : World) (hd : d ≠ 0) (d1 : -4611686018427387904 ≤ d) (d2 : d ≤ 4611686018427387904) (n1 : -4611686018427387904 ≤ n) (n2 : n ≤ 4611686018427387904) (hv : ratOk (redN n d) (redD n d) = 70) :
    Calls Try.prog 11 #[.int .i64 n, .int .i64 d] w fun e w' => e = .returned (.tuple #[.agg #[.int .i64 0, .int .i64 0], .int .i64 70]) ∧ Below w.heap.size w w' := by
  have wn := within_t ⟨n1, n2⟩
  have wd := within_t ⟨d1, d2⟩
  have hd' : (d == 0) = false := by simpa using hd
  have hmf : ∀ (fn : Fn) (first cap : Array Value) (w : World), (Instr.makeFunc fn first cap).run Try.prog w = .ok (.func fn first cap) w := fun _ _ _ _ => rfl
  go_enter_defers Try.func11, Try.ntmps11
  go_wp2_with (first | (go_at_call 25; refine (within_any _ _ _ _).mono ?_; rintro e w' ⟨rfl, rfl⟩))
  refine (reduce_no n d _ hd d1 d2 (by omega) (by omega) hv).mono ?_
  rintro e w1 ⟨rfl, hb1⟩
  have k0 := blk_below (blk_alloc (blk_new w _) _) hb1 (by simp; omega)
  have k1 := blk_below (blk_new _ _) hb1 (by simp)
  have B := below_after (by go_grown : Below w.heap.size w ((w.alloc (.cells #[.int .i64 0, .int .i64 0] 23)).alloc (.cells #[.int .i64 0] 25))) hb1 (by simp; omega)
  rw [World.size_alloc] at k1
  have K0 := Lib.hid k0; have K1 := Lib.hid k1
  have c0 := blk_cell k0 0; have c1 := blk_cell k0 1; have c2 := blk_cell k1 0
  simp at c0 c1 c2
  clear k0 k1 hb1
  go_wp2
  refine leaves_cons (f := 26) (args := #[.pointer (some ⟨w.heap.size, 0, none⟩), .pointer (some ⟨w.heap.size + 1, 0, none⟩)]) (by simp) (by simp [go_sem]) ?_
  refine (catch_panicking w.heap.size (w.heap.size + 1) _ _ _ _ _ _ _ (by omega) K0.out K1.out).mono ?_
  rintro e u' w'' ⟨rfl, rfl, rfl⟩
  simp [Leaves, settle, results, Try.results11, go_sem, c0, c1, c2]
  go_grown

set_option maxHeartbeats 1000000 in
theorem make_bad (n d : Int) (w : World) (h : ¬ (d ≠ 0 ∧ -4611686018427387904 ≤ d ∧ d ≤ 4611686018427387904 ∧ -4611686018427387904 ≤ n ∧ n ≤ 4611686018427387904)) :
    Calls Try.prog 11 #[.int .i64 n, .int .i64 d] w fun e w' => e = .returned (.tuple #[.agg #[.int .i64 0, .int .i64 0], .int .i64 1]) ∧ Below w.heap.size w w' := by
  have hmf : ∀ (fn : Fn) (first cap : Array Value) (w : World), (Instr.makeFunc fn first cap).run Try.prog w = .ok (.func fn first cap) w := fun _ _ _ _ => rfl
  by_cases hd : d = 0
  · subst hd
    clear h
    go_enter_defers Try.func11, Try.ntmps11
    go_wp2
    exact ⟨.tuple #[.agg #[.int .i64 0, .int .i64 0], .int .i64 1], by simp [results, Try.results11, go_sem], rfl, by go_grown⟩
  · have hd' : (d == 0) = false := by simpa using hd
    by_cases hn : -4611686018427387904 ≤ n ∧ n ≤ 4611686018427387904
    · have wn := within_t hn
      have wd := within_f (v := d) (lo := -4611686018427387904) (hi := 4611686018427387904) (fun g => h ⟨hd, g.1, g.2, hn.1, hn.2⟩)
      clear h hn hd
      go_enter_defers Try.func11, Try.ntmps11
      go_wp2_with (first | (go_at_call 25; refine (within_any _ _ _ _).mono ?_; rintro e w' ⟨rfl, rfl⟩))
      exact ⟨.tuple #[.agg #[.int .i64 0, .int .i64 0], .int .i64 1], by simp [results, Try.results11, go_sem], rfl, by go_grown⟩
    · have wn := within_f hn
      clear h hn hd
      go_enter_defers Try.func11, Try.ntmps11
      go_wp2_with (first | (go_at_call 25; refine (within_any _ _ _ _).mono ?_; rintro e w' ⟨rfl, rfl⟩))
      exact ⟨.tuple #[.agg #[.int .i64 0, .int .i64 0], .int .i64 1], by simp [results, Try.results11, go_sem], rfl, by go_grown⟩

end Go.Proofs.Ytaaoekddhgjckaa
