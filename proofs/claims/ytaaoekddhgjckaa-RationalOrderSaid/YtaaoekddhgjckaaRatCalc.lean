/- Contracts of calculate, Add, Mul (layer 7). -/
import Derived.Test.YtaaoekddhgjckaaRatRed
namespace Go.Proofs.Ytaaoekddhgjckaa
open Go.ChangeShapes Go.WideShapes Go.ChangeAt Go.RowKit

theorem pr_bd {x y : Int} (h1 : -2147483647 ≤ x) (h2 : x ≤ 2147483647) (h3 : 1 ≤ y) (h4 : y ≤ 2147483647) : -4611686014132420609 ≤ x * y ∧ x * y ≤ 4611686014132420609 := by
  have a1 : x * y ≤ 2147483647 * y := Int.mul_le_mul_of_nonneg_right h2 (by omega)
  have a3 : -2147483647 * y ≤ x * y := Int.mul_le_mul_of_nonneg_right h1 (by omega)
  omega
theorem pr_bd2 {x y : Int} (h1 : -2147483647 ≤ x) (h2 : x ≤ 2147483647) (h3 : -2147483647 ≤ y) (h4 : y ≤ 2147483647) : -4611686014132420609 ≤ x * y ∧ x * y ≤ 4611686014132420609 := by
  have a1 : 0 ≤ (2147483647 - x) * (2147483647 + y) := Int.mul_nonneg (by omega) (by omega)
  have a2 : 0 ≤ (2147483647 + x) * (2147483647 - y) := Int.mul_nonneg (by omega) (by omega)
  have a3 : 0 ≤ (2147483647 - x) * (2147483647 - y) := Int.mul_nonneg (by omega) (by omega)
  have a4 : 0 ≤ (2147483647 + x) * (2147483647 + y) := Int.mul_nonneg (by omega) (by omega)
  simp only [Int.sub_mul, Int.add_mul, Int.mul_sub, Int.mul_add] at a1 a2 a3 a4
  omega
theorem addbd {an ad bn bd : Int} (ha : Valid an ad) (hb : Valid bn bd) : ad * bd ≠ 0 ∧ -4611686018427387904 ≤ ad * bd ∧ ad * bd ≤ 4611686018427387904 ∧ -9223372036854775807 ≤ an * bd + bn * ad ∧ an * bd + bn * ad ≤ 9223372036854775807 := by
  obtain ⟨a1, a2, a3, a4, _⟩ := ha
  obtain ⟨b1, b2, b3, b4, _⟩ := hb
  have m1 := pr_bd a3 a4 b1 b2
  have m2 := pr_bd b3 b4 a1 a2
  have m3 := pr_bd (by omega : -2147483647 ≤ ad) a2 b1 b2
  have : 0 < ad * bd := Int.mul_pos (by omega) (by omega)
  omega
theorem mulbd {an ad bn bd : Int} (ha : Valid an ad) (hb : Valid bn bd) : ad * bd ≠ 0 ∧ -4611686018427387904 ≤ ad * bd ∧ ad * bd ≤ 4611686018427387904 ∧ -9223372036854775807 ≤ an * bn ∧ an * bn ≤ 9223372036854775807 := by
  obtain ⟨a1, a2, a3, a4, _⟩ := ha
  obtain ⟨b1, b2, b3, b4, _⟩ := hb
  have m1 := pr_bd2 a3 a4 b3 b4
  have m3 := pr_bd (by omega : -2147483647 ≤ ad) a2 b1 b2
  have : 0 < ad * bd := Int.mul_pos (by omega) (by omega)
  omega
theorem cell_alloc_keep {w : World} {a : Addr} {v : Value} (h : w.cell? a = some v) (o : Obj) : (w.alloc o).cell? a = some v :=
  (World.cell?_alloc_lt w o a (World.block_lt_of_cell? w a h)).trans h

def vB (an ad bn bd : Int) : Bool := decide (Valid an ad) && decide (Valid bn bd)
theorem valid_t {an ad bn bd : Int} (ha : Valid an ad) (hb : Valid bn bd) : vB an ad bn bd = true := by simp [vB, ha, hb]
theorem valid_f {an ad bn bd : Int} (h : ¬ (Valid an ad ∧ Valid bn bd)) : vB an ad bn bd = false := by simpa [vB] using h
theorem ok_yes {n d : Int} (h : Valid n d) : ratOk n d = 0 := if_pos h
theorem ok_no {n d : Int} (h : ¬ Valid n d) : ratOk n d = 70 := if_neg h

set_option maxHeartbeats 1000000 in
theorem valid_any (an ad bn bd : Int) (w : World) :
    Calls Try.prog 36 #[.agg #[.int .i64 an, .int .i64 ad], .agg #[.int .i64 bn, .int .i64 bd]] w fun e w' => e = .returned (.bool (vB an ad bn bd)) ∧ Below w.heap.size w w' := by
  by_cases ha : Valid an ad
  · have ea := ok_yes ha
    by_cases hb : Valid bn bd
    · rw [valid_t ha hb]
      have eb := ok_yes hb
      clear ha hb
      go_enter Try.func36, Try.ntmps36
      go_wp2_with fail
      refine (check_any _ _ _).mono ?_; rintro e w1 ⟨rfl, hb1⟩; rw [ea]
      have k := blk_below (blk_new _ _) hb1 (by simp)
      rw [World.size_alloc] at k
      have c0 := blk_cell k 0; have c1 := blk_cell k 1
      simp at c0 c1
      clear k
      have B := below_after (by go_grown : Below w.heap.size w ((w.alloc (.cells #[.int .i64 an, .int .i64 ad] 23)).alloc (.cells #[.int .i64 bn, .int .i64 bd] 23))) hb1 (by simp; omega)
      go_wp2_with fail
      refine (check_any _ _ _).mono ?_; rintro e w2 ⟨rfl, hb2⟩; rw [eb]
      have z1 := hb1.size
      simp at z1
      go_wp2
      go_ret
      exact ⟨rfl, below_after B hb2 (by omega)⟩
    · rw [valid_f (fun g => hb g.2)]
      have eb := ok_no hb
      clear ha hb
      go_enter Try.func36, Try.ntmps36
      go_wp2_with fail
      refine (check_any _ _ _).mono ?_; rintro e w1 ⟨rfl, hb1⟩; rw [ea]
      have k := blk_below (blk_new _ _) hb1 (by simp)
      rw [World.size_alloc] at k
      have c0 := blk_cell k 0; have c1 := blk_cell k 1
      simp at c0 c1
      clear k
      have B := below_after (by go_grown : Below w.heap.size w ((w.alloc (.cells #[.int .i64 an, .int .i64 ad] 23)).alloc (.cells #[.int .i64 bn, .int .i64 bd] 23))) hb1 (by simp; omega)
      go_wp2_with fail
      refine (check_any _ _ _).mono ?_; rintro e w2 ⟨rfl, hb2⟩; rw [eb]
      have z1 := hb1.size
      simp at z1
      go_wp2
      go_ret
      exact ⟨rfl, below_after B hb2 (by omega)⟩
  · rw [valid_f (fun g => ha g.1)]
    have ea := ok_no ha
    clear ha
    go_enter Try.func36, Try.ntmps36
    go_wp2_with fail
    refine (check_any _ _ _).mono ?_; rintro e w1 ⟨rfl, hb1⟩; rw [ea]
    go_wp2
    go_ret
    exact ⟨rfl, below_after (by go_grown) hb1 (by simp; omega)⟩

theorem ccatch_idle (p q : Addr) (w : World) :
    CallsD Try.prog 41 #[.pointer (some p), .pointer (some q)] .returning w fun e u' w' =>
      e = .returned (.tuple #[]) ∧ u' = .returning ∧ w' = w := by
  refine callsD_of_wpS Try.func41 rfl fun c₀ cs hu => ?_
  apply wpS_seq
  apply wpS_region
  simp [wpOpsS, go_sem, recoverD, hu, Try.ntmps41, Exit.thenS]
  refine wpS_cond (t := false) (by simp [Act.eval, Array.replicate]) ?_
  simp only [Bool.false_eq_true, if_false]
  refine wpS_of_wp (wp_skip ?_)
  cases c₀
  simp_all [bodyPostS, results, Try.results41]

theorem ccatch_panicking (p q : Nat) (x0 x1 y0 : Value) (u : TypeId) (pv : Value) (older : List PanicEntry) (w : World) (n2 : ¬ q = p) (hp : w.heap[p]? = some (.cells #[x0, x1] 23 (0, 0))) (hq : w.heap[q]? = some (.cells #[y0] 25 (0, 0))) :
    CallsD Try.prog 41 #[.pointer (some ⟨p, 0, none⟩), .pointer (some ⟨q, 0, none⟩)] (.panicking ({ v := .iface u pv, recovered := false } :: older)) w fun e u' w' =>
      e = .returned (.tuple #[]) ∧ u' = .panicking ({ v := .iface u pv, recovered := true } :: older) ∧ w' = ((w.setCell ⟨p, 0, none⟩ (.int .i64 0)).setCell ⟨p, 1, none⟩ (.int .i64 0)).setCell ⟨q, 0, none⟩ (.int .i64 70) := by
  refine callsD_of_wpS Try.func41 rfl fun c₀ cs hu => ?_
  apply wpS_seq
  apply wpS_region
  simp [wpOpsS, go_sem, recoverD, hu, Try.ntmps41, Exit.thenS]
  refine wpS_cond (t := true) (by simp [Act.eval, Array.replicate]) ?_
  simp only [if_true]
  refine wpS_of_wp ?_
  simp only [Array.replicate_succ, Array.replicate_zero, List.push_toArray, List.append_toArray, List.nil_append, List.cons_append, List.setIfInBounds_toArray, List.set_cons_succ, List.set_cons_zero]
  go_wp2_with (go_at_call 27; refine (fitted_any _ _ _ _ _ _ n2 hp hq).mono ?_; rintro e w' ⟨rfl, rfl⟩)
  simp [bodyPostS, results, Try.results41]


set_option maxHeartbeats 1000000 in
theorem calc_bad (an ad bn bd : Int) (f : Value) (w : World) (h : ¬ (Valid an ad ∧ Valid bn bd)) :
    Calls Try.prog 32 #[.agg #[.int .i64 an, .int .i64 ad], .agg #[.int .i64 bn, .int .i64 bd], f] w fun e w' => e = .returned (.tuple #[.agg #[.int .i64 0, .int .i64 0], .int .i64 70]) ∧ Below w.heap.size w w' := by
  have hv2 := valid_f h
  clear h
  go_enter_defers Try.func32, Try.ntmps32
  go_wp2_with fail
  refine (valid_any _ _ _ _ _).mono ?_
  rintro e w1 ⟨rfl, hb1⟩
  rw [hv2]
  have z1 := hb1.size
  simp at z1
  have k0 := blk_below (blk_alloc (blk_new _ _) _) hb1 (by simp)
  have k1 := blk_below (blk_new _ _) hb1 (by simp)
  rw [World.size_alloc, World.size_alloc] at k0
  rw [World.size_alloc, World.size_alloc, World.size_alloc] at k1
  have B1 := below_after (by go_grown : Below w.heap.size w ((((w.alloc (.cells #[.int .i64 an, .int .i64 ad] 23)).alloc (.cells #[.int .i64 bn, .int .i64 bd] 23)).alloc (.cells #[.int .i64 0, .int .i64 0] 23)).alloc (.cells #[.int .i64 0] 25))) hb1 (by simp; omega)
  clear hb1
  have c0 := blk_cell k0 0; have c1 := blk_cell k0 1; have f0 := blk_free k0 0; have f1 := blk_free k0 1
  have c2 := blk_cell k1 0; have f2 := blk_free k1 0
  simp at c0 c1 c2
  clear k0 k1
  go_wp2
  exact ⟨.tuple #[.agg #[.int .i64 0, .int .i64 0], .int .i64 70], by simp [results, Try.results32, go_sem, c0, c1, c2], rfl, by go_grown⟩

set_option maxHeartbeats 1000000 in
theorem add1_any (an ad bn bd : Int) (p q : Nat) (w : World) (a1 : 1 ≤ ad) (a2 : ad ≤ 2147483647) (a3 : -2147483647 ≤ an) (a4 : an ≤ 2147483647) (b1 : 1 ≤ bd) (b2 : bd ≤ 2147483647) (b3 : -2147483647 ≤ bn) (b4 : bn ≤ 2147483647)
    (hp0 : w.cell? ⟨p, 0, none⟩ = some (.int .i64 an)) (hp1 : w.cell? ⟨p, 1, none⟩ = some (.int .i64 ad)) (hq0 : w.cell? ⟨q, 0, none⟩ = some (.int .i64 bn)) (hq1 : w.cell? ⟨q, 1, none⟩ = some (.int .i64 bd)) :
    Calls Try.prog 33 #[.pointer (some ⟨p, 0, none⟩), .pointer (some ⟨q, 0, none⟩)] w fun e w' => e = .returned (.tuple #[.int .i64 (an * bd + bn * ad), .int .i64 (ad * bd)]) ∧ Below w.heap.size w w' := by
  have m1 := pr_bd a3 a4 b1 b2
  have m2 := pr_bd b3 b4 a1 a2
  have m3 := pr_bd (by omega : -2147483647 ≤ ad) a2 b1 b2
  have m4 := pr_bd2 a3 a4 b3 b4
  go_enter Try.func33, Try.ntmps33
  go_wp2
  go_quiet (fail)
  go_wp2
  go_ret2
  exact ⟨rfl, below_drewN (Below.refl _ _) _⟩

set_option maxHeartbeats 2000000 in
theorem addcalc_ok (an ad bn bd : Int) (p q : Nat) (w : World) (hva : Valid an ad) (hvb : Valid bn bd) (hv : ratOk (redN (an * bd + bn * ad) (ad * bd)) (redD (an * bd + bn * ad) (ad * bd)) = 0)
    (hp0 : w.cell? ⟨p, 0, none⟩ = some (.int .i64 an)) (hp1 : w.cell? ⟨p, 1, none⟩ = some (.int .i64 ad)) (hq0 : w.cell? ⟨q, 0, none⟩ = some (.int .i64 bn)) (hq1 : w.cell? ⟨q, 1, none⟩ = some (.int .i64 bd)) :
    Calls Try.prog 32 #[.agg #[.int .i64 an, .int .i64 ad], .agg #[.int .i64 bn, .int .i64 bd], .func (.func 33) #[] #[.pointer (some ⟨p, 0, none⟩), .pointer (some ⟨q, 0, none⟩)]] w fun e w' => e = .returned (.tuple #[.agg #[.int .i64 (redN (an * bd + bn * ad) (ad * bd)), .int .i64 (redD (an * bd + bn * ad) (ad * bd))], .int .i64 0]) ∧ Below w.heap.size w w' := by
  have hbp : p < w.heap.size := World.block_lt_of_cell? w _ hp0
  have hbq : q < w.heap.size := World.block_lt_of_cell? w _ hq0
  have hv2 := valid_t hva hvb
  have P := addbd hva hvb
  have hmf : ∀ (fn : Fn) (first cap : Array Value) (w : World), (Instr.makeFunc fn first cap).run Try.prog w = .ok (.func fn first cap) w := fun _ _ _ _ => rfl
  have HP0 := Lib.hid hp0; have HP1 := Lib.hid hp1; have HQ0 := Lib.hid hq0; have HQ1 := Lib.hid hq1; have HV := Lib.hid hv; have PP := Lib.hid P
  clear hp0 hp1 hq0 hq1 hv P
  go_enter_defers Try.func32, Try.ntmps32
  go_wp2_with fail
  refine (valid_any _ _ _ _ _).mono ?_
  rintro e w1 ⟨rfl, hb1⟩
  rw [hv2]
  have z1 := hb1.size
  simp at z1
  have k0 := blk_below (blk_alloc (blk_new _ _) _) hb1 (by simp)
  have k1 := blk_below (blk_new _ _) hb1 (by simp)
  rw [World.size_alloc, World.size_alloc] at k0
  rw [World.size_alloc, World.size_alloc, World.size_alloc] at k1
  have hp0 := (hb1.cell (p := ⟨p, 0, none⟩) (by simp; omega)).trans (((cell_alloc_keep (cell_alloc_keep (cell_alloc_keep (cell_alloc_keep HP0.out _) _) _) _)))
  have hp1 := (hb1.cell (p := ⟨p, 1, none⟩) (by simp; omega)).trans (((cell_alloc_keep (cell_alloc_keep (cell_alloc_keep (cell_alloc_keep HP1.out _) _) _) _)))
  have hq0 := (hb1.cell (p := ⟨q, 0, none⟩) (by simp; omega)).trans (((cell_alloc_keep (cell_alloc_keep (cell_alloc_keep (cell_alloc_keep HQ0.out _) _) _) _)))
  have hq1 := (hb1.cell (p := ⟨q, 1, none⟩) (by simp; omega)).trans (((cell_alloc_keep (cell_alloc_keep (cell_alloc_keep (cell_alloc_keep HQ1.out _) _) _) _)))
  have B1 := below_after (by go_grown : Below w.heap.size w ((((w.alloc (.cells #[.int .i64 an, .int .i64 ad] 23)).alloc (.cells #[.int .i64 bn, .int .i64 bd] 23)).alloc (.cells #[.int .i64 0, .int .i64 0] 23)).alloc (.cells #[.int .i64 0] 25))) hb1 (by simp; omega)
  clear hb1
  have K0 := Lib.hid k0; have K1 := Lib.hid k1; clear k0 k1
  have HP0' := Lib.hid hp0; have HP1' := Lib.hid hp1; have HQ0' := Lib.hid hq0; have HQ1' := Lib.hid hq1; clear hp0 hp1 hq0 hq1
  go_wp2_with fail
  refine (add1_any _ _ _ _ _ _ _ hva.1 hva.2.1 hva.2.2.1 hva.2.2.2.1 hvb.1 hvb.2.1 hvb.2.2.1 hvb.2.2.2.1 HP0'.out HP1'.out HQ0'.out HQ1'.out).mono ?_
  rintro e w2 ⟨rfl, hb2⟩
  have z2 := hb2.size
  have k2 := blk_below K0.out hb2 (by omega)
  have k3 := blk_below K1.out hb2 (by omega)
  replace B1 := below_after B1 hb2 (by omega)
  clear hb2
  have K2 := Lib.hid k2; have K3 := Lib.hid k3; clear k2 k3
  go_wp2_with fail
  refine (reduce_ok _ _ _ PP.out.1 PP.out.2.1 PP.out.2.2.1 PP.out.2.2.2.1 PP.out.2.2.2.2 HV.out).mono ?_
  rintro e w3 ⟨rfl, hb3⟩
  have k4 := blk_below K2.out hb3 (by omega)
  have k5 := blk_below K3.out hb3 (by omega)
  have z3 := hb3.size
  replace B1 := below_after B1 hb3 (by omega)
  clear hb3
  have c0 := blk_cell k4 0; have c1 := blk_cell k4 1; have f0 := blk_free k4 0; have f1 := blk_free k4 1
  have c2 := blk_cell k5 0; have f2 := blk_free k5 0
  simp at c0 c1 c2
  have K4 := Lib.hid k4; have K5 := Lib.hid k5; clear k4 k5
  go_wp2
  refine leaves_cons (f := 41) (args := #[.pointer (some ⟨w.heap.size + 1 + 1, 0, none⟩), .pointer (some ⟨w.heap.size + 1 + 1 + 1, 0, none⟩)]) (by simp) (by simp [go_sem]) ?_
  refine (ccatch_idle _ _ _).mono ?_
  rintro e u' w'' ⟨rfl, rfl, rfl⟩
  exact ⟨.tuple #[.agg #[.int .i64 (redN (an * bd + bn * ad) (ad * bd)), .int .i64 (redD (an * bd + bn * ad) (ad * bd))], .int .i64 0], by simp [results, Try.results32, go_sem, c0, c1, c2], rfl, by go_grown⟩
set_option maxHeartbeats 2000000 in
theorem addcalc_no (an ad bn bd : Int) (p q : Nat) (w : World) (hva : Valid an ad) (hvb : Valid bn bd) (hv : ratOk (redN (an * bd + bn * ad) (ad * bd)) (redD (an * bd + bn * ad) (ad * bd)) = 70)
    (hp0 : w.cell? ⟨p, 0, none⟩ = some (.int .i64 an)) (hp1 : w.cell? ⟨p, 1, none⟩ = some (.int .i64 ad)) (hq0 : w.cell? ⟨q, 0, none⟩ = some (.int .i64 bn)) (hq1 : w.cell? ⟨q, 1, none⟩ = some (.int .i64 bd)) :
    Calls Try.prog 32 #[.agg #[.int .i64 an, .int .i64 ad], .agg #[.int .i64 bn, .int .i64 bd], .func (.func 33) #[] #[.pointer (some ⟨p, 0, none⟩), .pointer (some ⟨q, 0, none⟩)]] w fun e w' => e = .returned (.tuple #[.agg #[.int .i64 0, .int .i64 0], .int .i64 70]) ∧ Below w.heap.size w w' := by
  have hbp : p < w.heap.size := World.block_lt_of_cell? w _ hp0
  have hbq : q < w.heap.size := World.block_lt_of_cell? w _ hq0
  have hv2 := valid_t hva hvb
  have P := addbd hva hvb
  have hmf : ∀ (fn : Fn) (first cap : Array Value) (w : World), (Instr.makeFunc fn first cap).run Try.prog w = .ok (.func fn first cap) w := fun _ _ _ _ => rfl
  have HP0 := Lib.hid hp0; have HP1 := Lib.hid hp1; have HQ0 := Lib.hid hq0; have HQ1 := Lib.hid hq1; have HV := Lib.hid hv; have PP := Lib.hid P
  clear hp0 hp1 hq0 hq1 hv P
  go_enter_defers Try.func32, Try.ntmps32
  go_wp2_with fail
  refine (valid_any _ _ _ _ _).mono ?_
  rintro e w1 ⟨rfl, hb1⟩
  rw [hv2]
  have z1 := hb1.size
  simp at z1
  have k0 := blk_below (blk_alloc (blk_new _ _) _) hb1 (by simp)
  have k1 := blk_below (blk_new _ _) hb1 (by simp)
  rw [World.size_alloc, World.size_alloc] at k0
  rw [World.size_alloc, World.size_alloc, World.size_alloc] at k1
  have hp0 := (hb1.cell (p := ⟨p, 0, none⟩) (by simp; omega)).trans (((cell_alloc_keep (cell_alloc_keep (cell_alloc_keep (cell_alloc_keep HP0.out _) _) _) _)))
  have hp1 := (hb1.cell (p := ⟨p, 1, none⟩) (by simp; omega)).trans (((cell_alloc_keep (cell_alloc_keep (cell_alloc_keep (cell_alloc_keep HP1.out _) _) _) _)))
  have hq0 := (hb1.cell (p := ⟨q, 0, none⟩) (by simp; omega)).trans (((cell_alloc_keep (cell_alloc_keep (cell_alloc_keep (cell_alloc_keep HQ0.out _) _) _) _)))
  have hq1 := (hb1.cell (p := ⟨q, 1, none⟩) (by simp; omega)).trans (((cell_alloc_keep (cell_alloc_keep (cell_alloc_keep (cell_alloc_keep HQ1.out _) _) _) _)))
  have B1 := below_after (by go_grown : Below w.heap.size w ((((w.alloc (.cells #[.int .i64 an, .int .i64 ad] 23)).alloc (.cells #[.int .i64 bn, .int .i64 bd] 23)).alloc (.cells #[.int .i64 0, .int .i64 0] 23)).alloc (.cells #[.int .i64 0] 25))) hb1 (by simp; omega)
  clear hb1
  have K0 := Lib.hid k0; have K1 := Lib.hid k1; clear k0 k1
  have HP0' := Lib.hid hp0; have HP1' := Lib.hid hp1; have HQ0' := Lib.hid hq0; have HQ1' := Lib.hid hq1; clear hp0 hp1 hq0 hq1
  go_wp2_with fail
  refine (add1_any _ _ _ _ _ _ _ hva.1 hva.2.1 hva.2.2.1 hva.2.2.2.1 hvb.1 hvb.2.1 hvb.2.2.1 hvb.2.2.2.1 HP0'.out HP1'.out HQ0'.out HQ1'.out).mono ?_
  rintro e w2 ⟨rfl, hb2⟩
  have z2 := hb2.size
  have k2 := blk_below K0.out hb2 (by omega)
  have k3 := blk_below K1.out hb2 (by omega)
  replace B1 := below_after B1 hb2 (by omega)
  clear hb2
  have K2 := Lib.hid k2; have K3 := Lib.hid k3; clear k2 k3
  go_wp2_with fail
  refine (reduce_no _ _ _ PP.out.1 PP.out.2.1 PP.out.2.2.1 PP.out.2.2.2.1 PP.out.2.2.2.2 HV.out).mono ?_
  rintro e w3 ⟨rfl, hb3⟩
  have k4 := blk_below K2.out hb3 (by omega)
  have k5 := blk_below K3.out hb3 (by omega)
  have z3 := hb3.size
  replace B1 := below_after B1 hb3 (by omega)
  clear hb3
  have c0 := blk_cell k4 0; have c1 := blk_cell k4 1; have f0 := blk_free k4 0; have f1 := blk_free k4 1
  have c2 := blk_cell k5 0; have f2 := blk_free k5 0
  simp at c0 c1 c2
  have K4 := Lib.hid k4; have K5 := Lib.hid k5; clear k4 k5
  go_wp2
  refine leaves_cons (f := 41) (args := #[.pointer (some ⟨w.heap.size + 1 + 1, 0, none⟩), .pointer (some ⟨w.heap.size + 1 + 1 + 1, 0, none⟩)]) (by simp) (by simp [go_sem]) ?_
  refine (ccatch_panicking _ _ _ _ _ _ _ _ _ (by omega) K4.out K5.out).mono ?_
  rintro e u' w'' ⟨rfl, rfl, rfl⟩
  simp [Leaves, settle, results, Try.results32, go_sem, c0, c1, c2]
  go_grown

set_option maxHeartbeats 1000000 in
theorem mul1_any (an ad bn bd : Int) (p q : Nat) (w : World) (a1 : 1 ≤ ad) (a2 : ad ≤ 2147483647) (a3 : -2147483647 ≤ an) (a4 : an ≤ 2147483647) (b1 : 1 ≤ bd) (b2 : bd ≤ 2147483647) (b3 : -2147483647 ≤ bn) (b4 : bn ≤ 2147483647)
    (hp0 : w.cell? ⟨p, 0, none⟩ = some (.int .i64 an)) (hp1 : w.cell? ⟨p, 1, none⟩ = some (.int .i64 ad)) (hq0 : w.cell? ⟨q, 0, none⟩ = some (.int .i64 bn)) (hq1 : w.cell? ⟨q, 1, none⟩ = some (.int .i64 bd)) :
    Calls Try.prog 34 #[.pointer (some ⟨p, 0, none⟩), .pointer (some ⟨q, 0, none⟩)] w fun e w' => e = .returned (.tuple #[.int .i64 (an * bn), .int .i64 (ad * bd)]) ∧ Below w.heap.size w w' := by
  have m1 := pr_bd a3 a4 b1 b2
  have m2 := pr_bd b3 b4 a1 a2
  have m3 := pr_bd (by omega : -2147483647 ≤ ad) a2 b1 b2
  have m4 := pr_bd2 a3 a4 b3 b4
  go_enter Try.func34, Try.ntmps34
  go_wp2
  go_quiet (fail)
  go_wp2
  go_ret2
  exact ⟨rfl, below_drewN (Below.refl _ _) _⟩

set_option maxHeartbeats 2000000 in
theorem mulcalc_ok (an ad bn bd : Int) (p q : Nat) (w : World) (hva : Valid an ad) (hvb : Valid bn bd) (hv : ratOk (redN (an * bn) (ad * bd)) (redD (an * bn) (ad * bd)) = 0)
    (hp0 : w.cell? ⟨p, 0, none⟩ = some (.int .i64 an)) (hp1 : w.cell? ⟨p, 1, none⟩ = some (.int .i64 ad)) (hq0 : w.cell? ⟨q, 0, none⟩ = some (.int .i64 bn)) (hq1 : w.cell? ⟨q, 1, none⟩ = some (.int .i64 bd)) :
    Calls Try.prog 32 #[.agg #[.int .i64 an, .int .i64 ad], .agg #[.int .i64 bn, .int .i64 bd], .func (.func 34) #[] #[.pointer (some ⟨p, 0, none⟩), .pointer (some ⟨q, 0, none⟩)]] w fun e w' => e = .returned (.tuple #[.agg #[.int .i64 (redN (an * bn) (ad * bd)), .int .i64 (redD (an * bn) (ad * bd))], .int .i64 0]) ∧ Below w.heap.size w w' := by
  have hbp : p < w.heap.size := World.block_lt_of_cell? w _ hp0
  have hbq : q < w.heap.size := World.block_lt_of_cell? w _ hq0
  have hv2 := valid_t hva hvb
  have P := mulbd hva hvb
  have hmf : ∀ (fn : Fn) (first cap : Array Value) (w : World), (Instr.makeFunc fn first cap).run Try.prog w = .ok (.func fn first cap) w := fun _ _ _ _ => rfl
  have HP0 := Lib.hid hp0; have HP1 := Lib.hid hp1; have HQ0 := Lib.hid hq0; have HQ1 := Lib.hid hq1; have HV := Lib.hid hv; have PP := Lib.hid P
  clear hp0 hp1 hq0 hq1 hv P
  go_enter_defers Try.func32, Try.ntmps32
  go_wp2_with fail
  refine (valid_any _ _ _ _ _).mono ?_
  rintro e w1 ⟨rfl, hb1⟩
  rw [hv2]
  have z1 := hb1.size
  simp at z1
  have k0 := blk_below (blk_alloc (blk_new _ _) _) hb1 (by simp)
  have k1 := blk_below (blk_new _ _) hb1 (by simp)
  rw [World.size_alloc, World.size_alloc] at k0
  rw [World.size_alloc, World.size_alloc, World.size_alloc] at k1
  have hp0 := (hb1.cell (p := ⟨p, 0, none⟩) (by simp; omega)).trans (((cell_alloc_keep (cell_alloc_keep (cell_alloc_keep (cell_alloc_keep HP0.out _) _) _) _)))
  have hp1 := (hb1.cell (p := ⟨p, 1, none⟩) (by simp; omega)).trans (((cell_alloc_keep (cell_alloc_keep (cell_alloc_keep (cell_alloc_keep HP1.out _) _) _) _)))
  have hq0 := (hb1.cell (p := ⟨q, 0, none⟩) (by simp; omega)).trans (((cell_alloc_keep (cell_alloc_keep (cell_alloc_keep (cell_alloc_keep HQ0.out _) _) _) _)))
  have hq1 := (hb1.cell (p := ⟨q, 1, none⟩) (by simp; omega)).trans (((cell_alloc_keep (cell_alloc_keep (cell_alloc_keep (cell_alloc_keep HQ1.out _) _) _) _)))
  have B1 := below_after (by go_grown : Below w.heap.size w ((((w.alloc (.cells #[.int .i64 an, .int .i64 ad] 23)).alloc (.cells #[.int .i64 bn, .int .i64 bd] 23)).alloc (.cells #[.int .i64 0, .int .i64 0] 23)).alloc (.cells #[.int .i64 0] 25))) hb1 (by simp; omega)
  clear hb1
  have K0 := Lib.hid k0; have K1 := Lib.hid k1; clear k0 k1
  have HP0' := Lib.hid hp0; have HP1' := Lib.hid hp1; have HQ0' := Lib.hid hq0; have HQ1' := Lib.hid hq1; clear hp0 hp1 hq0 hq1
  go_wp2_with fail
  refine (mul1_any _ _ _ _ _ _ _ hva.1 hva.2.1 hva.2.2.1 hva.2.2.2.1 hvb.1 hvb.2.1 hvb.2.2.1 hvb.2.2.2.1 HP0'.out HP1'.out HQ0'.out HQ1'.out).mono ?_
  rintro e w2 ⟨rfl, hb2⟩
  have z2 := hb2.size
  have k2 := blk_below K0.out hb2 (by omega)
  have k3 := blk_below K1.out hb2 (by omega)
  replace B1 := below_after B1 hb2 (by omega)
  clear hb2
  have K2 := Lib.hid k2; have K3 := Lib.hid k3; clear k2 k3
  go_wp2_with fail
  refine (reduce_ok _ _ _ PP.out.1 PP.out.2.1 PP.out.2.2.1 PP.out.2.2.2.1 PP.out.2.2.2.2 HV.out).mono ?_
  rintro e w3 ⟨rfl, hb3⟩
  have k4 := blk_below K2.out hb3 (by omega)
  have k5 := blk_below K3.out hb3 (by omega)
  have z3 := hb3.size
  replace B1 := below_after B1 hb3 (by omega)
  clear hb3
  have c0 := blk_cell k4 0; have c1 := blk_cell k4 1; have f0 := blk_free k4 0; have f1 := blk_free k4 1
  have c2 := blk_cell k5 0; have f2 := blk_free k5 0
  simp at c0 c1 c2
  have K4 := Lib.hid k4; have K5 := Lib.hid k5; clear k4 k5
  go_wp2
  refine leaves_cons (f := 41) (args := #[.pointer (some ⟨w.heap.size + 1 + 1, 0, none⟩), .pointer (some ⟨w.heap.size + 1 + 1 + 1, 0, none⟩)]) (by simp) (by simp [go_sem]) ?_
  refine (ccatch_idle _ _ _).mono ?_
  rintro e u' w'' ⟨rfl, rfl, rfl⟩
  exact ⟨.tuple #[.agg #[.int .i64 (redN (an * bn) (ad * bd)), .int .i64 (redD (an * bn) (ad * bd))], .int .i64 0], by simp [results, Try.results32, go_sem, c0, c1, c2], rfl, by go_grown⟩
set_option maxHeartbeats 2000000 in
theorem mulcalc_no (an ad bn bd : Int) (p q : Nat) (w : World) (hva : Valid an ad) (hvb : Valid bn bd) (hv : ratOk (redN (an * bn) (ad * bd)) (redD (an * bn) (ad * bd)) = 70)
    (hp0 : w.cell? ⟨p, 0, none⟩ = some (.int .i64 an)) (hp1 : w.cell? ⟨p, 1, none⟩ = some (.int .i64 ad)) (hq0 : w.cell? ⟨q, 0, none⟩ = some (.int .i64 bn)) (hq1 : w.cell? ⟨q, 1, none⟩ = some (.int .i64 bd)) :
    Calls Try.prog 32 #[.agg #[.int .i64 an, .int .i64 ad], .agg #[.int .i64 bn, .int .i64 bd], .func (.func 34) #[] #[.pointer (some ⟨p, 0, none⟩), .pointer (some ⟨q, 0, none⟩)]] w fun e w' => e = .returned (.tuple #[.agg #[.int .i64 0, .int .i64 0], .int .i64 70]) ∧ Below w.heap.size w w' := by
  have hbp : p < w.heap.size := World.block_lt_of_cell? w _ hp0
  have hbq : q < w.heap.size := World.block_lt_of_cell? w _ hq0
  have hv2 := valid_t hva hvb
  have P := mulbd hva hvb
  have hmf : ∀ (fn : Fn) (first cap : Array Value) (w : World), (Instr.makeFunc fn first cap).run Try.prog w = .ok (.func fn first cap) w := fun _ _ _ _ => rfl
  have HP0 := Lib.hid hp0; have HP1 := Lib.hid hp1; have HQ0 := Lib.hid hq0; have HQ1 := Lib.hid hq1; have HV := Lib.hid hv; have PP := Lib.hid P
  clear hp0 hp1 hq0 hq1 hv P
  go_enter_defers Try.func32, Try.ntmps32
  go_wp2_with fail
  refine (valid_any _ _ _ _ _).mono ?_
  rintro e w1 ⟨rfl, hb1⟩
  rw [hv2]
  have z1 := hb1.size
  simp at z1
  have k0 := blk_below (blk_alloc (blk_new _ _) _) hb1 (by simp)
  have k1 := blk_below (blk_new _ _) hb1 (by simp)
  rw [World.size_alloc, World.size_alloc] at k0
  rw [World.size_alloc, World.size_alloc, World.size_alloc] at k1
  have hp0 := (hb1.cell (p := ⟨p, 0, none⟩) (by simp; omega)).trans (((cell_alloc_keep (cell_alloc_keep (cell_alloc_keep (cell_alloc_keep HP0.out _) _) _) _)))
  have hp1 := (hb1.cell (p := ⟨p, 1, none⟩) (by simp; omega)).trans (((cell_alloc_keep (cell_alloc_keep (cell_alloc_keep (cell_alloc_keep HP1.out _) _) _) _)))
  have hq0 := (hb1.cell (p := ⟨q, 0, none⟩) (by simp; omega)).trans (((cell_alloc_keep (cell_alloc_keep (cell_alloc_keep (cell_alloc_keep HQ0.out _) _) _) _)))
  have hq1 := (hb1.cell (p := ⟨q, 1, none⟩) (by simp; omega)).trans (((cell_alloc_keep (cell_alloc_keep (cell_alloc_keep (cell_alloc_keep HQ1.out _) _) _) _)))
  have B1 := below_after (by go_grown : Below w.heap.size w ((((w.alloc (.cells #[.int .i64 an, .int .i64 ad] 23)).alloc (.cells #[.int .i64 bn, .int .i64 bd] 23)).alloc (.cells #[.int .i64 0, .int .i64 0] 23)).alloc (.cells #[.int .i64 0] 25))) hb1 (by simp; omega)
  clear hb1
  have K0 := Lib.hid k0; have K1 := Lib.hid k1; clear k0 k1
  have HP0' := Lib.hid hp0; have HP1' := Lib.hid hp1; have HQ0' := Lib.hid hq0; have HQ1' := Lib.hid hq1; clear hp0 hp1 hq0 hq1
  go_wp2_with fail
  refine (mul1_any _ _ _ _ _ _ _ hva.1 hva.2.1 hva.2.2.1 hva.2.2.2.1 hvb.1 hvb.2.1 hvb.2.2.1 hvb.2.2.2.1 HP0'.out HP1'.out HQ0'.out HQ1'.out).mono ?_
  rintro e w2 ⟨rfl, hb2⟩
  have z2 := hb2.size
  have k2 := blk_below K0.out hb2 (by omega)
  have k3 := blk_below K1.out hb2 (by omega)
  replace B1 := below_after B1 hb2 (by omega)
  clear hb2
  have K2 := Lib.hid k2; have K3 := Lib.hid k3; clear k2 k3
  go_wp2_with fail
  refine (reduce_no _ _ _ PP.out.1 PP.out.2.1 PP.out.2.2.1 PP.out.2.2.2.1 PP.out.2.2.2.2 HV.out).mono ?_
  rintro e w3 ⟨rfl, hb3⟩
  have k4 := blk_below K2.out hb3 (by omega)
  have k5 := blk_below K3.out hb3 (by omega)
  have z3 := hb3.size
  replace B1 := below_after B1 hb3 (by omega)
  clear hb3
  have c0 := blk_cell k4 0; have c1 := blk_cell k4 1; have f0 := blk_free k4 0; have f1 := blk_free k4 1
  have c2 := blk_cell k5 0; have f2 := blk_free k5 0
  simp at c0 c1 c2
  have K4 := Lib.hid k4; have K5 := Lib.hid k5; clear k4 k5
  go_wp2
  refine leaves_cons (f := 41) (args := #[.pointer (some ⟨w.heap.size + 1 + 1, 0, none⟩), .pointer (some ⟨w.heap.size + 1 + 1 + 1, 0, none⟩)]) (by simp) (by simp [go_sem]) ?_
  refine (ccatch_panicking _ _ _ _ _ _ _ _ _ (by omega) K4.out K5.out).mono ?_
  rintro e u' w'' ⟨rfl, rfl, rfl⟩
  simp [Leaves, settle, results, Try.results32, go_sem, c0, c1, c2]
  go_grown
end Go.Proofs.Ytaaoekddhgjckaa
