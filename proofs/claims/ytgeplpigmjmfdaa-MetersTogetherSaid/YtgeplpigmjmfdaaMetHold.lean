/- Contracts of Hold (layer 52): the program's and the specification's. -/
import Derived.Test.YtgeplpigmjmfdaaMetSum
namespace Go.Proofs.Ytgeplpigmjmfdaa
open Go.ChangeShapes Go.WideShapes Go.ChangeAt Go.RowKit

def holdY (l : List Int) (f : Int) : Nat → Int
  | 0 => 0
  | k + 1 => max (max (sizeV (l.getD k 0)) (holdY l f k - f)) 0
theorem holdY_bd (l : List Int) (f : Int) (hf : 0 ≤ f) (k : Nat) : 0 ≤ holdY l f k ∧ holdY l f k ≤ 2147483648 := by
  induction k with
  | zero => simp [holdY]
  | succ k ih => have := sizeV_bd (l.getD k 0); simp only [holdY]; omega
def holdL (l : List Int) (f : Int) (n : Nat) : List Int := (List.range n).map fun j => holdY l f (j + 1)
theorem holdL_len (l : List Int) (f : Int) (n : Nat) : (holdL l f n).length = n := by simp [holdL]
theorem holdL_succ (l : List Int) (f : Int) (n : Nat) : holdL l f (n + 1) = holdL l f n ++ [holdY l f (n + 1)] := by simp [holdL, List.range_succ]

set_option maxHeartbeats 1000000 in
theorem rhold_ok (a : Option Addr) (b off n cap : Nat) (l : List Int) (f : Int) (w : World) (h : Row w a b off n l) (hn : n ≤ 100000) (hf : 0 ≤ f) (hf2 : f ≤ 2147483648) :
    Calls Try.prog 14 #[.slice a n cap, .int .i64 f] w fun e w' => ∃ v, e = .returned (.tuple #[v, .int .i64 0]) ∧ Ints w' w.heap.size v (holdL l f n) ∧ Below w.heap.size w w' := by
  obtain ⟨i0, hi, hz0, hz1, hz2⟩ := info_parts info_int
  have HR := Lib.hid h; clear h
  go_enter Try.func14, Try.ntmps14
  go_wp2
  go_loopw [6, 7, 8] (fun v y i wr => ∃ k : Nat, k ≤ n ∧ i = .int .i64 k ∧ y = .int .i64 (holdY l f k) ∧ Ints wr w.heap.size v (holdL l f k) ∧ Below w.heap.size w wr) (fun _ _ i _ => n - (intOf i).toNat)
  case atStart => exact ⟨0, Nat.zero_le _, rfl, rfl, Ints.nil _ _, Below.refl _ _⟩
  case round =>
    obtain ⟨k, hk, rfl, rfl, hO, hB⟩ := hrel
    by_cases hlt : k < n
    · obtain rfl := HR.out.adr (by omega)
      have hcell := (HR.out.below hB (Nat.le_refl _)).cel k hlt
      have sb := sizeV_bd (l.getD k 0)
      have pb := holdY_bd l f hf k
      have hs := hB.size
      have hY : holdY l f (k + 1) = max (max (sizeV (l.getD k 0)) (holdY l f k - f)) 0 := rfl
      generalize hx : l.getD k 0 = x at *
      have HX := Lib.hid hx; have HY := Lib.hid hY; clear hx hY
      have HB := Lib.hid hB; clear hB
      by_cases hm : sizeV x < holdY l f k - f
      · go_wp2_with (first | (go_at_call 24; refine (rsize_any _ _).mono ?_; rintro e w' ⟨rfl, rfl⟩) | (at_builtin; refine wpList_append_int rfl _ _ rfl w.heap.size _ _ rfl (hO.alloc _) _ _ rfl _ _ (blk_new _ _) (by rw [holdL_len]; omega) (by simp; omega) ?_; intro v' w1 hO1 hB1 _))
        have HO1 := Lib.hid hO1; clear hO1
        go_roundw
        case rel => exact ⟨k + 1, by omega, by go_num, by rw [HY.out]; congr 1; omega, by rw [holdL_succ, HY.out]; have := HO1.out; rwa [show max (max (sizeV x) (holdY l f k - f)) 0 = holdY l f k - f by omega], (HB.out.alloc hs _).trans hB1⟩
        case measure => simp [intOf]; omega
      · go_wp2_with (first | (go_at_call 24; refine (rsize_any _ _).mono ?_; rintro e w' ⟨rfl, rfl⟩) | (at_builtin; refine wpList_append_int rfl _ _ rfl w.heap.size _ _ rfl (hO.alloc _) _ _ rfl _ _ (blk_new _ _) (by rw [holdL_len]; omega) (by simp; omega) ?_; intro v' w1 hO1 hB1 _))
        have HO1 := Lib.hid hO1; clear hO1
        go_roundw
        case rel => exact ⟨k + 1, by omega, by go_num, by rw [HY.out]; congr 1; omega, by rw [holdL_succ, HY.out]; have := HO1.out; rwa [show max (max (sizeV x) (holdY l f k - f)) 0 = sizeV x by omega], (HB.out.alloc hs _).trans hB1⟩
        case measure => simp [intOf]; omega
    · obtain rfl : k = n := by omega
      go_wp2
      go_ret2
      exact ⟨_, rfl, hO, hB⟩
end Go.Proofs.Ytgeplpigmjmfdaa
