/- links.all with each of the two closures of Check (layer 13). -/
import Derived.Test.YthncfhfnboocmaaLnkFormed
import Derived.Test.YthncfhfnboocmaaLnkEnds
namespace Go.Proofs.Ythncfhfnboocmaa
open Go.ChangeShapes Go.WideShapes Go.ChangeAt Go.RowKit

/-- All of the first n links are right. -/
noncomputable def allOkB (m : Int) (l : List Jt) (n : Nat) : Bool := by classical exact if okJs m l n then true else false
theorem allOkB_t {m : Int} {l : List Jt} {n : Nat} (h : okJs m l n) : allOkB m l n = true := if_pos h
theorem allOkB_f {m : Int} {l : List Jt} {n : Nat} (h : ¬ okJs m l n) : allOkB m l n = false := if_neg h
noncomputable def allEndB (l : List Jt) : Bool := by classical exact if ends1 l then true else false
theorem allEndB_t {l : List Jt} (h : ends1 l) : allEndB l = true := if_pos h
theorem allEndB_f {l : List Jt} (h : ¬ ends1 l) : allEndB l = false := if_neg h
theorem endB_iff {l : List Jt} {n : Nat} {p : Int} : endB l n p = true ↔ bks l n (some p) = none := by unfold endB; simp

set_option maxRecDepth 100000 in
set_option maxHeartbeats 4000000 in
theorem all_formed (X : Nat) (m : Int) (a : Option Addr) (b off n cap : Nat) (l : List Jt) (w : World) (h : Js w a n b off l) (hn : n ≤ 256) (hX : w.heap[X]? = some (.cells #[.int .i64 m] 3 (0, 0))) (h0 : 0 ≤ m) (h1 : m ≤ 256) :
    Calls Try.prog 23 #[.slice a n cap, .func (.func 21) #[] #[.pointer (some ⟨X, 0, none⟩)]] w fun e w' => e = .returned (.bool (allOkB m l n)) ∧ Below w.heap.size w w' := by
  have hl := h.1
  have hXl : X < w.heap.size := (Array.getElem?_eq_some_iff.1 hX).1
  have HK := Lib.hid (show _ ∧ _ from ⟨h, hX⟩)
  clear h hX
  go_enter Try.func23, Try.ntmps23
  go_wp2
  go_loopw [9] (fun i wr => ∃ k : Nat, k ≤ n ∧ i = .int .i64 k ∧ (∀ i, i < k → okB m (nthJ l i) = true) ∧ Below w.heap.size w wr) (fun i _ => n - (intOf i).toNat)
  case atStart => exact ⟨0, Nat.zero_le _, rfl, fun i hi => by omega, Below.refl _ _⟩
  case round =>
    obtain ⟨k, hk, rfl, hall, hb⟩ := hrel
    by_cases hlt : k < n
    case neg =>
      obtain rfl : k = n := by omega
      have EB := Lib.hid (show allOkB m l k = true from allOkB_t fun i hi => okB_iff.1 (hall i hi))
      clear hall
      go_wp2
      go_ret
      exact ⟨by rw [EB.out]; rfl, hb⟩
    obtain ⟨rfl, hbw⟩ := HK.out.1.2.1 (by omega)
    obtain ⟨c0, c1, c2, c3, c4⟩ := (HK.out.1.grown hb).2.2 k hlt
    have hz := hb.size
    have hb2 := hb.alloc hz (.cells #[.int .i64 (nthJ l k).1, .int .i64 (nthJ l k).2.1, .int .i64 (nthJ l k).2.2.1, .int .i64 (nthJ l k).2.2.2.1, .int .i64 (nthJ l k).2.2.2.2] 34)
    have uk : IntKind.i64.wrap ((k : Int) + 1) = (k : Int) + 1 := wrap_id (by omega)
    have i2 : (k : Int) < (n : Int) := by omega
    have hbz : b < wr.heap.size := Nat.lt_of_lt_of_le hbw hz
    have hstep : okB m (nthJ l k) = true → ∀ i, i < k + 1 → okB m (nthJ l i) = true := fun g i hi => by
      by_cases e : i = k
      · subst e; exact g
      · exact hall i (by omega)
    have hbad : okB m (nthJ l k) = false → allOkB m l n = false := fun g => allOkB_f fun q => absurd (g.symm.trans (okB_t (q k hlt))) Bool.false_ne_true
    have hXr := Lib.hid (blk_alloc (blk_below HK.out.2 hb hXl) (.cells #[.int .i64 (nthJ l k).1, .int .i64 (nthJ l k).2.1, .int .i64 (nthJ l k).2.2.1, .int .i64 (nthJ l k).2.2.2.1, .int .i64 (nthJ l k).2.2.2.2] 34))
    have HC := Lib.hid (fun w' (hB : Below (wr.alloc (.cells #[.int .i64 (nthJ l k).1, .int .i64 (nthJ l k).2.1, .int .i64 (nthJ l k).2.2.1, .int .i64 (nthJ l k).2.2.2.1, .int .i64 (nthJ l k).2.2.2.2] 34)).heap.size (wr.alloc (.cells #[.int .i64 (nthJ l k).1, .int .i64 (nthJ l k).2.1, .int .i64 (nthJ l k).2.2.1, .int .i64 (nthJ l k).2.2.2.1, .int .i64 (nthJ l k).2.2.2.2] 34)) w') => below_after hb2 hB hb2.size)
    clear hb2 hall hb
    cases hr : okB m (nthJ l k) with
    | false =>
      have EB := Lib.hid (hbad hr)
      clear hbad hstep
      generalize hx : nthJ l k = x at *
      obtain ⟨x0, x1, x2, x3, x4⟩ := x
      dsimp only at c0 c1 c2 c3 c4
      go_wp2_with (go_at_call 21; refine (formed_any X m (x0, x1, x2, x3, x4) _ hXr.out h0 h1).mono ?_; rintro e' w' ⟨rfl, hB⟩; rw [hr])
      go_ret
      exact ⟨by rw [EB.out]; rfl, HC.out _ hB⟩
    | true =>
      have HS := Lib.hid (hstep hr)
      clear hbad hstep
      generalize hx : nthJ l k = x at *
      obtain ⟨x0, x1, x2, x3, x4⟩ := x
      dsimp only at c0 c1 c2 c3 c4
      go_wp2_with (go_at_call 21; refine (formed_any X m (x0, x1, x2, x3, x4) _ hXr.out h0 h1).mono ?_; rintro e' w' ⟨rfl, hB⟩; rw [hr])
      go_roundw
      case rel => exact ⟨k + 1, by omega, by go_num, HS.out, HC.out _ hB⟩
      case measure => simp [intOf]; omega

theorem ownsMap_below {w w' : World} {B mb n : Nat} {D : DataW Value} {k : TypeId} {R : Value → Option (DataW Value × List MemPlace)} (h : w.ownsMap Try.prog k R mb n D) (hb : Below B w w') (hB : mb < B := by first | exact h.lt | omega) : w'.ownsMap Try.prog k R mb n D := by
  obtain ⟨es, clock, h1, h2⟩ := h
  exact ⟨es, clock, blk_below h1 hb hB, h2⟩

set_option maxRecDepth 100000 in
set_option maxHeartbeats 4000000 in
theorem all_ends (L S mb : Nat) (a2 : Option Addr) (cap2 : Nat) (a : Option Addr) (b off n cap : Nat) (l : List Jt) (w : World) (h : Js w a n b off l) (hn : n ≤ 256) (hL : w.heap[L]? = some (.cells #[.slice a2 n cap2] 22 (0, 0))) (hS : w.heap[S]? = some (.cells #[.map (some mb)] 43 (0, 0))) (hown : w.ownsMap Try.prog 3 selfElem mb n (mapJ l n)) (hwl : ∀ i, i < n → wfJ (nthJ l i)) :
    Calls Try.prog 23 #[.slice a n cap, .func (.func 24) #[] #[.pointer (some ⟨L, 0, none⟩), .pointer (some ⟨S, 0, none⟩)]] w fun e w' => e = .returned (.bool (allEndB l)) ∧ Below w.heap.size w w' := by
  have hl := h.1
  have hLl : L < w.heap.size := (Array.getElem?_eq_some_iff.1 hL).1
  have hSl : S < w.heap.size := (Array.getElem?_eq_some_iff.1 hS).1
  have HK := Lib.hid (show _ ∧ _ ∧ _ ∧ _ ∧ _ from ⟨h, hL, hS, hown, hwl⟩)
  have hmb := hown.lt
  clear h hL hS hown hwl
  go_enter Try.func23, Try.ntmps23
  go_wp2
  go_loopw [9] (fun i wr => ∃ k : Nat, k ≤ n ∧ i = .int .i64 k ∧ (∀ i, i < k → endB l n (nthJ l i).1 = true) ∧ Below w.heap.size w wr) (fun i _ => n - (intOf i).toNat)
  case atStart => exact ⟨0, Nat.zero_le _, rfl, fun i hi => by omega, Below.refl _ _⟩
  case round =>
    obtain ⟨k, hk, rfl, hall, hb⟩ := hrel
    by_cases hlt : k < n
    case neg =>
      obtain rfl : k = n := by omega
      have EB := Lib.hid (show allEndB l = true from allEndB_t fun i hi => (by rw [hl]; exact endB_iff.1 (hall i (by omega))))
      clear hall
      go_wp2
      go_ret
      exact ⟨by rw [EB.out]; rfl, hb⟩
    obtain ⟨rfl, hbw⟩ := HK.out.1.2.1 (by omega)
    obtain ⟨c0, c1, c2, c3, c4⟩ := (HK.out.1.grown hb).2.2 k hlt
    have hz := hb.size
    have hb2 := hb.alloc hz (.cells #[.int .i64 (nthJ l k).1, .int .i64 (nthJ l k).2.1, .int .i64 (nthJ l k).2.2.1, .int .i64 (nthJ l k).2.2.2.1, .int .i64 (nthJ l k).2.2.2.2] 34)
    have uk : IntKind.i64.wrap ((k : Int) + 1) = (k : Int) + 1 := wrap_id (by omega)
    have i2 : (k : Int) < (n : Int) := by omega
    have hbz : b < wr.heap.size := Nat.lt_of_lt_of_le hbw hz
    have hstep : endB l n (nthJ l k).1 = true → ∀ i, i < k + 1 → endB l n (nthJ l i).1 = true := fun g i hi => by
      by_cases e : i = k
      · subst e; exact g
      · exact hall i (by omega)
    have hbad : endB l n (nthJ l k).1 = false → allEndB l = false := fun g => allEndB_f fun q => absurd (g.symm.trans (endB_iff.2 (by rw [← hl]; exact q k (by omega)))) Bool.false_ne_true
    have HX := Lib.hid (show _ ∧ _ ∧ _ from ⟨blk_alloc (blk_below HK.out.2.1 hb hLl) (.cells #[.int .i64 (nthJ l k).1, .int .i64 (nthJ l k).2.1, .int .i64 (nthJ l k).2.2.1, .int .i64 (nthJ l k).2.2.2.1, .int .i64 (nthJ l k).2.2.2.2] 34), blk_alloc (blk_below HK.out.2.2.1 hb hSl) (.cells #[.int .i64 (nthJ l k).1, .int .i64 (nthJ l k).2.1, .int .i64 (nthJ l k).2.2.1, .int .i64 (nthJ l k).2.2.2.1, .int .i64 (nthJ l k).2.2.2.2] 34), (ownsMap_below HK.out.2.2.2.1 hb).alloc (.cells #[.int .i64 (nthJ l k).1, .int .i64 (nthJ l k).2.1, .int .i64 (nthJ l k).2.2.1, .int .i64 (nthJ l k).2.2.2.1, .int .i64 (nthJ l k).2.2.2.2] 34)⟩)
    have hwk := Lib.hid (HK.out.2.2.2.2 k hlt)
    have HC := Lib.hid (fun w' (hB : Below (wr.alloc (.cells #[.int .i64 (nthJ l k).1, .int .i64 (nthJ l k).2.1, .int .i64 (nthJ l k).2.2.1, .int .i64 (nthJ l k).2.2.2.1, .int .i64 (nthJ l k).2.2.2.2] 34)).heap.size (wr.alloc (.cells #[.int .i64 (nthJ l k).1, .int .i64 (nthJ l k).2.1, .int .i64 (nthJ l k).2.2.1, .int .i64 (nthJ l k).2.2.2.1, .int .i64 (nthJ l k).2.2.2.2] 34)) w') => below_after hb2 hB hb2.size)
    clear hb2 hall hb
    cases hr : endB l n (nthJ l k).1 with
    | false =>
      have EB := Lib.hid (hbad hr)
      clear hbad hstep
      generalize hx : nthJ l k = x at *
      obtain ⟨x0, x1, x2, x3, x4⟩ := x
      dsimp only at c0 c1 c2 c3 c4
      go_wp2_with (go_at_call 24; refine (ends_any L S mb a2 n cap2 l (x0, x1, x2, x3, x4) _ HX.out.1 HX.out.2.1 HX.out.2.2 hl hn HK.out.2.2.2.2 hwk.out).mono ?_; rintro e' w' ⟨rfl, hB⟩; (try dsimp only); rw [hr])
      go_ret
      exact ⟨by rw [EB.out]; rfl, HC.out _ hB⟩
    | true =>
      have HS := Lib.hid (hstep hr)
      clear hbad hstep
      generalize hx : nthJ l k = x at *
      obtain ⟨x0, x1, x2, x3, x4⟩ := x
      dsimp only at c0 c1 c2 c3 c4
      go_wp2_with (go_at_call 24; refine (ends_any L S mb a2 n cap2 l (x0, x1, x2, x3, x4) _ HX.out.1 HX.out.2.1 HX.out.2.2 hl hn HK.out.2.2.2.2 hwk.out).mono ?_; rintro e' w' ⟨rfl, hB⟩; (try dsimp only); rw [hr])
      go_roundw
      case rel => exact ⟨k + 1, by omega, by go_num, HS.out, HC.out _ hB⟩
      case measure => simp [intOf]; omega
end Go.Proofs.Ythncfhfnboocmaa
