/- The contract of Hold (layer 52). -/
import Derived.Test.YtgeplpigmjmfdaaMetStep
namespace Go.Proofs.Ytgeplpigmjmfdaa
open Go.ChangeShapes Go.WideShapes Go.ChangeAt Go.RowKit

theorem holder_any (f : Int) (w : World) :
    Calls Try.prog 23 #[.int .i64 f] w fun e w' => e = .returned (.func (.func 31) #[] #[.pointer (some ⟨w.heap.size + 1, 0, none⟩), .pointer (some ⟨w.heap.size, 0, none⟩)]) ∧
      w' = (w.alloc (.cells #[.int .i64 f] 3)).alloc (.cells #[.int .i64 0] 3) := by
  go_enter Try.func23, Try.ntmps23
  go_wp2
  go_ret
  exact ⟨by simp, by simp⟩

theorem Ints.upd {w w' : World} {B H : Nat} {v : Value} {l : List Int} (h : Ints w B v l) (hb : Upd H w w') (hB : H < B) : Ints w' B v l := by
  refine ⟨h.1, ?_⟩
  rcases h.2 with h0 | ⟨g, cap, cur, h1, h2, h3, h4⟩
  · exact .inl h0
  · refine .inr ⟨g, cap, cur, h1, h2, ?_, h4⟩
    exact (hb.block g (Array.getElem?_eq_some_iff.1 h3).1 (by omega)).trans h3

set_option maxHeartbeats 2000000 in
theorem hold_ok (a : Option Addr) (b off n cap : Nat) (l : List Int) (f : Int) (w : World) (h : Row w a b off n l) (hn : n ≤ 100000) (hf : 0 ≤ f) (hf2 : f ≤ 2147483648) :
    Calls Try.prog 13 #[.slice a n cap, .int .i64 f] w fun e w' => ∃ v, e = .returned (.tuple #[v, .int .i64 0]) ∧ Ints w' w.heap.size v (holdL l f n) ∧ Below w.heap.size w w' := by
  have HR := Lib.hid h; clear h
  go_enter Try.func13, Try.ntmps13
  go_wp2_with fail
  refine (within_any _ _ _ _).mono ?_; rintro e w' ⟨rfl, rfl⟩
  rw [within_t ⟨hf, hf2⟩]
  go_wp2_with fail
  refine (holder_any _ _).mono ?_; rintro e w0 ⟨rfl, hw0⟩
  have hB0 : Below w.heap.size w w0 := by rw [hw0]; exact ((Below.refl _ _).alloc (Nat.le_refl _) _).alloc (by simp) _
  have k1 : w0.heap[w.heap.size]? = some (.cells #[.int .i64 f] 3 (0, 0)) := by rw [hw0]; exact blk_alloc (blk_new _ _) _
  have k2 : w0.heap[w.heap.size + 1]? = some (.cells #[.int .i64 0] 3 (0, 0)) := by rw [hw0]; have := blk_new (w.alloc (.cells #[.int .i64 f] 3)) (.cells #[.int .i64 0] 3); rwa [World.size_alloc] at this
  have hs0 : w0.heap.size = w.heap.size + 2 := by rw [hw0]; simp
  have K0 := Lib.hid (show _ ∧ _ ∧ _ ∧ _ from ⟨hB0, k1, k2, hs0⟩)
  clear hw0 hB0 k1 k2 hs0
  go_wp2_with fail
  go_loopw [4, 16] (fun v i wr => ∃ k : Nat, k ≤ n ∧ i = .int .i64 k ∧ Ints wr (w.heap.size + 2) v (holdL l f k) ∧ Below w.heap.size w wr ∧ wr.heap[w.heap.size]? = some (.cells #[.int .i64 f] 3 (0, 0)) ∧ wr.heap[w.heap.size + 1]? = some (.cells #[.int .i64 (holdY l f k)] 3 (0, 0)) ∧ w.heap.size + 2 ≤ wr.heap.size) (fun _ i _ => n - (intOf i).toNat)
  case atStart => exact ⟨0, Nat.zero_le _, rfl, Ints.nil _ _, K0.out.1, K0.out.2.1, K0.out.2.2.1, by rw [K0.out.2.2.2]; exact Nat.le_refl _⟩
  case round =>
    obtain ⟨k, hk, rfl, hO, hB, k1, k2, hs⟩ := hrel
    by_cases hlt : k < n
    · obtain rfl := HR.out.adr (by omega)
      have hcell := (HR.out.below hB (Nat.le_refl _)).cel k hlt
      have pb := holdY_bd l f hf k
      have hY : holdY l f (k + 1) = max (max (sizeV (l.getD k 0)) (holdY l f k - f)) 0 := rfl
      generalize hx : l.getD k 0 = x at *
      have HX := Lib.hid hx; have HY := Lib.hid hY; clear hx hY
      have HK := Lib.hid (show _ ∧ _ ∧ _ ∧ _ ∧ _ from ⟨hO, hB, k1, k2, hs⟩)
      clear hO hB k1 k2 hs
      go_wp2_with fail
      refine (step_any (w.heap.size + 1) w.heap.size _ (holdY l f k) f _ HK.out.2.2.2.1 HK.out.2.2.1 pb.1 pb.2 hf hf2).mono ?_
      rintro e w1 ⟨rfl, e2, hU⟩
      rw [← HY.out] at e2 ⊢
      have hO1 := HK.out.1.upd hU (by omega)
      have hs1 := Nat.le_trans HK.out.2.2.2.2 hU.size
      have e1 := (hU.block w.heap.size (by have := HK.out.2.2.2.2; omega) (by omega)).trans HK.out.2.2.1
      have hB1 := hU.below HK.out.2.1 (by omega) (by have := HK.out.2.2.2.2; omega)
      have HE := Lib.hid (show _ ∧ _ ∧ _ from ⟨e1, e2, hB1⟩)
      clear hU e1 e2 hB1
      go_wp2_with (first | (at_builtin; refine wpList_append_int rfl _ _ rfl (w.heap.size + 2) _ _ rfl (hO1.alloc _) _ _ rfl _ _ (blk_new _ _) (by rw [holdL_len]; omega) (by simp; omega) ?_; intro v' w2 hO2 hB2 _))
      have HO2 := Lib.hid (show _ ∧ _ from ⟨hO2, hB2⟩); clear hO2 hB2
      go_roundw
      case rel =>
        refine ⟨k + 1, by omega, by go_num, by rw [holdL_succ]; exact HO2.out.1, (HE.out.2.2.alloc (by omega) _).trans (HO2.out.2.mono (by omega)), ?_, ?_, ?_⟩
        · exact blk_below (blk_alloc HE.out.1 _) HO2.out.2 (by omega)
        · exact blk_below (blk_alloc HE.out.2.1 _) HO2.out.2 (by omega)
        · have := HO2.out.2.size; simp at this; omega
      case measure => simp [intOf]; omega
    · obtain rfl : k = n := by omega
      go_wp2
      go_ret2
      exact ⟨_, rfl, hO.mono (by omega), hB⟩

theorem hold_no (a : Option Addr) (n cap : Nat) (f : Int) (w : World) (hf : ¬ (0 ≤ f ∧ f ≤ 2147483648)) :
    Calls Try.prog 13 #[.slice a n cap, .int .i64 f] w fun e w' => e = .returned (.tuple #[.slice none 0 0, .int .i64 1]) ∧ w = w' := by
  go_enter Try.func13, Try.ntmps13
  go_wp2_with fail
  refine (within_any _ _ _ _).mono ?_; rintro e w' ⟨rfl, rfl⟩
  rw [within_f hf]
  go_wp2
  go_ret2
  exact ⟨rfl, rfl⟩

theorem rhold_no (a : Option Addr) (n cap : Nat) (f : Int) (w : World) (hf : ¬ (0 ≤ f ∧ f ≤ 2147483648)) :
    Calls Try.prog 14 #[.slice a n cap, .int .i64 f] w fun e w' => e = .returned (.tuple #[.slice none 0 0, .int .i64 1]) ∧ w = w' := by
  by_cases h0 : f < 0
  · clear hf
    go_enter Try.func14, Try.ntmps14
    go_wp2
    go_ret2
    exact ⟨rfl, rfl⟩
  · have h1 : 2147483648 < f := by omega
    clear hf
    go_enter Try.func14, Try.ntmps14
    go_wp2
    go_ret2
    exact ⟨rfl, rfl⟩
end Go.Proofs.Ytgeplpigmjmfdaa
