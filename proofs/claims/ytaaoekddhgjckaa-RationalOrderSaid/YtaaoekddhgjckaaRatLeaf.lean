/- Leaf contracts of layer 7 (rational). -/
import Derived.Test.YtaaoekddhgjckaaRows
import Derived.Handy
import Derived.WalkLawsBesides
import Derived.WalkSpells
import Derived.Deep.QuietTactic
import Derived.BigQuiet
import Derived.Lib.Hide
import Derived.WalkSmall
namespace Go.Proofs.Ytaaoekddhgjckaa
open Go.ChangeShapes Go.WideShapes Go.ChangeAt Go.RowKit

theorem ret_int {k : IntKind} {a b : Int} (h : a = b) : Ending.returned (.int k a) = .returned (.int k b) := by rw [h]
theorem ret_bool {a b : Bool} (h : a = b) : Ending.returned (.bool a) = .returned (.bool b) := by rw [h]
theorem bcell {W w1 : World} (hb : Below W.heap.size W w1) : (∀ b o, b < W.heap.size → w1.cell? ⟨b, o, none⟩ = W.cell? ⟨b, o, none⟩) ∧ (∀ b o, b < W.heap.size → w1.frozen? ⟨b, o, none⟩ = W.frozen? ⟨b, o, none⟩) :=
  ⟨fun b o h => hb.cell (p := ⟨b, o, none⟩) h, fun b o h => hb.frozen (p := ⟨b, o, none⟩) h⟩
theorem below_after {B : Nat} {a W w1 : World} (h : Below B a W) (hb : Below W.heap.size W w1) (hB : B ≤ W.heap.size) : Below B a w1 := h.trans (hb.mono hB)

theorem blk_below {B k : Nat} {W w1 : World} {o : Obj} (h : W.heap[k]? = some o) (hb : Below B W w1) (hk : k < B) : w1.heap[k]? = some o := (hb.block k hk).trans h
theorem blk_alloc {k : Nat} {W : World} {o : Obj} (h : W.heap[k]? = some o) (x : Obj) : (W.alloc x).heap[k]? = some o := (Below.heap_alloc W x k (Array.getElem?_eq_some_iff.1 h).1).trans h
theorem blk_drew {k : Nat} {W : World} {o : Obj} (h : W.heap[k]? = some o) : W.drew.heap[k]? = some o := h
theorem blk_drewN {k : Nat} {W : World} {o : Obj} (h : W.heap[k]? = some o) (n : Nat) : (W.drewN n).heap[k]? = some o := h
theorem blk_new (W : World) (o : Obj) : (W.alloc o).heap[W.heap.size]? = some o := heap_alloc_new W o
theorem blk_cell {W : World} {b : Nat} {c : Array Value} {t : TypeId} {fr : Nat × Nat} (h : W.heap[b]? = some (.cells c t fr)) (i : Nat) : W.cell? ⟨b, i, none⟩ = c[i]? := cell_of_row W b i c t fr h
theorem blk_free {W : World} {b : Nat} {c : Array Value} {t : TypeId} (h : W.heap[b]? = some (.cells c t (0, 0))) (i : Nat) : W.frozen? ⟨b, i, none⟩ = false := by
  simp [World.frozen?, h]

def within (v lo hi : Int) : Bool := decide (lo ≤ v ∧ v ≤ hi)
theorem within_t {v lo hi : Int} (h : lo ≤ v ∧ v ≤ hi) : within v lo hi = true := by unfold within; simpa using h
theorem within_f {v lo hi : Int} (h : ¬ (lo ≤ v ∧ v ≤ hi)) : within v lo hi = false := by unfold within; simpa using h

theorem within_any (v lo hi : Int) (w : World) :
    Calls Try.prog 25 #[.int .i64 v, .int .i64 lo, .int .i64 hi] w fun e w' => e = .returned (.bool (within v lo hi)) ∧ w = w' := by
  go_enter Try.func25, Try.ntmps25
  go_wp2
  all_goals go_ret
  all_goals exact ⟨ret_bool (by unfold within; simp; omega), rfl⟩

def sgn (v : Int) : Int := if v < 0 then -1 else if 0 < v then 1 else 0
theorem sign_any (v : Int) (w : World) :
    Calls Try.prog 35 #[.int .i64 v] w fun e w' => e = .returned (.int .i64 (sgn v)) ∧ w = w' := by
  go_enter Try.func35, Try.ntmps35
  go_wp2
  all_goals (go_ret; exact ⟨ret_int (by unfold sgn; (repeat' split) <;> omega), rfl⟩)

theorem tmod_facts (p : Int) {q : Int} (hq : q ≠ 0) (q1 : -9223372036854775807 ≤ q) (q2 : q ≤ 9223372036854775807) :
    -9223372036854775807 ≤ p.tmod q ∧ p.tmod q ≤ 9223372036854775807 ∧ Nat.gcd q.natAbs (p.tmod q).natAbs = Nat.gcd p.natAbs q.natAbs ∧ (p.tmod q).natAbs < q.natAbs := by
  have e : (p.tmod q).natAbs = p.natAbs % q.natAbs := Int.natAbs_tmod p q
  have h0 : 0 < q.natAbs := by omega
  have l : p.natAbs % q.natAbs < q.natAbs := Nat.mod_lt _ h0
  refine ⟨by omega, by omega, ?_, by omega⟩
  rw [e, Nat.gcd_comm p.natAbs, Nat.gcd_rec q.natAbs p.natAbs, Nat.gcd_comm]

/-- The greatest common divisor of the first k numbers. -/
def gcdTo (l : List Int) : Nat → Nat
  | 0 => 0
  | k + 1 => Nat.gcd (gcdTo l k) (l.getD k 0).natAbs

set_option maxHeartbeats 1000000 in
theorem divisor_any (a : Option Addr) (b off n cap : Nat) (l : List Int) (w : World) (hn : n ≤ 1000000) (ha : 0 < n → a = some ⟨b, off, none⟩)
    (hc : ∀ i, i < n → w.cell? ⟨b, off + i, none⟩ = some (.int .i64 (l.getD i 0))) (hr : ∀ i, i < n → -9223372036854775807 ≤ l.getD i 0 ∧ l.getD i 0 ≤ 9223372036854775807) :
    Calls Try.prog 30 #[.slice a n cap] w fun e w' => e = .returned (.int .i64 (gcdTo l n)) ∧ Below w.heap.size w w' := by
  have HC := Lib.hid hc; have HA := Lib.hid ha; have HR := Lib.hid hr; clear hc ha hr
  go_enter Try.func30, Try.ntmps30
  go_wp2
  go_loopw [3, 5, 8] (fun d _ i wr => ∃ (k : Nat) (x : Int), k ≤ n ∧ i = .int .i64 k ∧ d = .int .i64 x ∧ x.natAbs = gcdTo l k ∧ -9223372036854775807 ≤ x ∧ x ≤ 9223372036854775807 ∧ Below w.heap.size w wr) (fun _ _ i _ => n - (intOf i).toNat)
  case atStart => exact ⟨0, 0, Nat.zero_le _, rfl, rfl, rfl, by omega, by omega, Below.refl _ _⟩
  case round =>
    obtain ⟨k, x, hk, rfl, rfl, hx, hx1, hx2, hb⟩ := hrel
    have HX := Lib.hid hx; clear hx
    by_cases hlt : k < n
    · obtain rfl := HA.out (by omega)
      have hcell := (hb.cell (p := ⟨b, off + k, none⟩) (World.block_lt_of_cell? w _ (HC.out k hlt))).trans (HC.out k hlt)
      obtain ⟨r1, r2⟩ := HR.out k hlt
      generalize hy : l.getD k 0 = y at *
      have HY := Lib.hid hy; clear hy
      go_wp2
      obtain ⟨wo, rfl⟩ : ∃ wo : World, wo = wr := ⟨_, rfl⟩
      go_loopw [3, 5] (fun d m wi => ∃ (p q : Int), d = .int .i64 p ∧ m = .int .i64 q ∧ Nat.gcd p.natAbs q.natAbs = gcdTo l (k + 1) ∧ -9223372036854775807 ≤ p ∧ p ≤ 9223372036854775807 ∧ -9223372036854775807 ≤ q ∧ q ≤ 9223372036854775807 ∧ Below w.heap.size w wi) (fun _ m _ => (intOf m).natAbs)
      case atStart => exact ⟨x, y, rfl, rfl, by simp only [gcdTo, HX.out, HY.out], hx1, hx2, r1, r2, hb⟩
      case round =>
        obtain ⟨p, q, rfl, rfl, hg, p1, p2, q1, q2, hbi⟩ := hrel
        have HG := Lib.hid hg; clear hg
        by_cases hq : q = 0
        · subst hq
          go_wp2
          have hg := HG.out
          exact ⟨⟨k + 1, p, by omega, by go_num, rfl, by simpa using hg, p1, p2, hbi⟩, by simp [intOf]; omega⟩
        · have hq' : (q == 0) = false := by simpa using hq
          have hq2 : (q != 0) = true := by simpa using hq
          obtain ⟨t1, t2, t3, t4⟩ := tmod_facts p hq q1 q2
          have T3 := Lib.hid t3; clear t3
          go_wp2
          go_quiet (fail)
          go_wp2
          go_roundw
          case rel => exact ⟨q, p.tmod q, rfl, rfl, by rw [T3.out]; exact HG.out, q1, q2, t1, t2, below_drewN hbi _⟩
          case measure => simp only [intOf]; exact t4
    · obtain rfl : k = n := by omega
      go_wp2
      all_goals (go_ret; exact ⟨ret_int (by have := HX.out; omega), hb⟩)

/-! ### Rational numbers as the program has them -/

def Valid (N D : Int) : Prop := 1 ≤ D ∧ D ≤ 2147483647 ∧ -2147483647 ≤ N ∧ N ≤ 2147483647 ∧ Int.gcd N D = 1
instance (N D : Int) : Decidable (Valid N D) := by unfold Valid; infer_instance
def ratOk (N D : Int) : Int := if Valid N D then 0 else 70

theorem gcd2 (n d : Int) : gcdTo [n, d] 2 = Int.gcd n d := by simp [gcdTo, Int.gcd]

theorem divisor_two (b off cap : Nat) (x y : Int) (w : World) (y1 : 1 ≤ y) (y2 : y ≤ 9223372036854775807) (x1 : -9223372036854775807 ≤ x) (x2 : x ≤ 9223372036854775807)
    (c0 : w.cell? ⟨b, off, none⟩ = some (.int .i64 x)) (c1 : w.cell? ⟨b, off + 1, none⟩ = some (.int .i64 y)) :
    Calls Try.prog 30 #[.slice (some ⟨b, off, none⟩) 2 cap] w fun e w' => e = .returned (.int .i64 (Int.gcd x y)) ∧ Below w.heap.size w w' := by
  refine (divisor_any _ b off 2 cap [x, y] w (by omega) (fun _ => rfl) ?_ ?_).mono fun e w' ⟨he, hb⟩ => ⟨by rw [he, gcd2], hb⟩
  · intro i hi
    match i, hi with
    | 0, _ => exact c0
    | 1, _ => exact c1
  · intro i hi
    match i, hi with
    | 0, _ => simp; omega
    | 1, _ => simp; omega
theorem divisor_two' (b off cap : Nat) (x y : Int) (w : World) (y1 : -9223372036854775807 ≤ y) (y2 : y ≤ 9223372036854775807) (x1 : -9223372036854775807 ≤ x) (x2 : x ≤ 9223372036854775807)
    (c0 : w.cell? ⟨b, off, none⟩ = some (.int .i64 x)) (c1 : w.cell? ⟨b, off + 1, none⟩ = some (.int .i64 y)) :
    Calls Try.prog 30 #[.slice (some ⟨b, off, none⟩) 2 cap] w fun e w' => e = .returned (.int .i64 (Int.gcd x y)) ∧ Below w.heap.size w w' := by
  refine (divisor_any _ b off 2 cap [x, y] w (by omega) (fun _ => rfl) ?_ ?_).mono fun e w' ⟨he, hb⟩ => ⟨by rw [he, gcd2], hb⟩
  · intro i hi
    match i, hi with
    | 0, _ => exact c0
    | 1, _ => exact c1
  · intro i hi
    match i, hi with
    | 0, _ => simp; omega
    | 1, _ => simp; omega

set_option maxHeartbeats 1000000 in
theorem check_any (n d : Int) (w : World) :
    Calls Try.prog 13 #[.agg #[.int .i64 n, .int .i64 d]] w fun e w' => e = .returned (.int .i64 (ratOk n d)) ∧ Below w.heap.size w w' := by
  by_cases hd : 1 ≤ d ∧ d ≤ 2147483647
  · have wd := within_t hd
    by_cases hn : -2147483647 ≤ n ∧ n ≤ 2147483647
    · have wn := within_t hn
      obtain ⟨h1, h2⟩ := hd
      obtain ⟨h3, h4⟩ := hn
      by_cases hg : Int.gcd n d = 1
      · have e : ratOk n d = 0 := if_pos ⟨h1, h2, h3, h4, hg⟩
        have hg' : ((Int.gcd n d : Int) != 1) = false := by simp; omega
        rw [e]
        clear hg e
        go_enter Try.func13, Try.ntmps13
        go_wp2_with (first | (go_at_call 25; refine (within_any _ _ _ _).mono ?_; rintro e w' ⟨rfl, rfl⟩) | (go_at_call 30; refine (divisor_two _ _ _ n d _ h1 (by omega) (by omega) (by omega) (by go_cell) (by go_cell)).mono ?_; rintro e w1 ⟨rfl, hb1⟩))
        go_ret
        exact ⟨rfl, below_after (by go_grown) hb1 (by simp; omega)⟩
      · have e : ratOk n d = 70 := if_neg fun h => hg h.2.2.2.2
        have hg' : ((Int.gcd n d : Int) != 1) = true := by simp; omega
        rw [e]
        clear hg e
        go_enter Try.func13, Try.ntmps13
        go_wp2_with (first | (go_at_call 25; refine (within_any _ _ _ _).mono ?_; rintro e w' ⟨rfl, rfl⟩) | (go_at_call 30; refine (divisor_two _ _ _ n d _ h1 (by omega) (by omega) (by omega) (by go_cell) (by go_cell)).mono ?_; rintro e w1 ⟨rfl, hb1⟩))
        go_ret
        exact ⟨rfl, below_after (by go_grown) hb1 (by simp; omega)⟩
    · have wn := within_f hn
      have e : ratOk n d = 70 := if_neg fun h => hn ⟨h.2.2.1, h.2.2.2.1⟩
      rw [e]
      clear hd hn e
      go_enter Try.func13, Try.ntmps13
      go_wp2_with (go_at_call 25; refine (within_any _ _ _ _).mono ?_; rintro e w' ⟨rfl, rfl⟩)
      go_ret
      exact ⟨rfl, by go_grown⟩
  · have wd := within_f hd
    have e : ratOk n d = 70 := if_neg fun h => hd ⟨h.1, h.2.1⟩
    rw [e]
    clear hd e
    go_enter Try.func13, Try.ntmps13
    go_wp2_with (go_at_call 25; refine (within_any _ _ _ _).mono ?_; rintro e w' ⟨rfl, rfl⟩)
    go_ret
    exact ⟨rfl, by go_grown⟩
end Go.Proofs.Ytaaoekddhgjckaa
