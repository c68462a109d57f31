/- expand, same (layer 44). -/
import Derived.Test.YthnhnmmabjmjgaaOvdEx
import Derived.Test.YthnhnmmabjmjgaaOwn
import Derived.Deep.Cut
namespace Go.Proofs.Ythnhnmmabjmjgaa
open Go.ChangeShapes Go.WideShapes Go.ChangeAt Go.RowKit Go.Shelf

theorem ints_ne {w : World} {B : Nat} {v : Value} {l : List Int} (h : Ints w B v l) {q : Nat} {c : Array Value} {tb : TypeId} {f : Nat × Nat} (hq : w.heap[q]? = some (.cells c tb f)) (ht : tb ≠ 3) : some q ≠ v.ownBlock := by
  intro e
  rcases h.2 with ⟨h0, _⟩ | ⟨g, cp, cur, e1, e2, e3, _⟩
  · rw [h0] at e; cases e
  · rw [e1] at e; cases e; rw [e3] at hq; cases hq; exact ht rfl
theorem grown_oth {w w' : World} {own : Option Nat} {q : Nat} {ob : Obj} (h : w.grownBy w' own) (hq : w.heap[q]? = some ob) (hn : some q ≠ own) : w'.heap[q]? = some ob := (h.block q (Array.getElem?_eq_some_iff.1 hq).1 hn).trans hq
theorem exG_take {x : List Dt} {k : Nat} (h : k < x.length) : exG (x.take (k + 1)) = exS (exG (x.take k)) (nthD x k) := by
  rw [List.take_add_one, List.getElem?_eq_getElem h]
  have e : nthD x k = x[k] := by unfold nthD; simp [List.getD_eq_getElem?_getD, h]
  rw [e, Option.toList_some, exG_snoc]
theorem exOk_len {x : List Dt} {n : Int} (h : ExOk x n) (hn : 0 ≤ n) : ∀ k, k ≤ x.length → ((exG (x.take k)).length : Int) ≤ n := by
  intro k
  cases k with
  | zero => intro _; show ((0 : Nat) : Int) ≤ n; omega
  | succ k =>
    intro hk
    have := h k (by omega)
    rw [exG_take (by omega), exS_len this.1 (by omega)]
    omega
set_option maxRecDepth 100000 in
set_option maxHeartbeats 8000000 in
theorem expand_any (a : Option Addr) (n cap b off : Nat) (x : List Dt) (nn : Nat) (w : World) (hM : Ds w a n b off x) (hok : ExOk x (nn : Int)) (hat : ∀ i, i < x.length → (nthD x i).2.2.1 ≤ 2199023255552) (hnn : nn ≤ 65536) (hn : n ≤ 9223372036854775807) :
    Calls Try.prog 20 #[.slice a n cap, .int .i64 (nn : Int)] w fun e w' => ∃ v, e = .returned (.tuple #[v, .bool true]) ∧ Ints w' w.heap.size v (padL (exG x) nn) ∧ Below w.heap.size w w' := by
  have hla := exOk_len hok (by omega)
  have HM := Lib.hid (show _ ∧ _ ∧ _ ∧ _ from ⟨hM, hok, hla, hat⟩)
  have HL := Lib.hid (show _ ∧ _ from ⟨hM.1, hM.2.1⟩)
  clear hM hok hla hat
  go_enter Try.func20, Try.ntmps20
  go_wp2
  go_loopw [4, 11] (fun s i wr => ∃ k : Nat, k ≤ n ∧ i = .int .i64 k ∧ Ints wr w.heap.size s (exG (x.take k)) ∧ Below w.heap.size w wr) (fun _ i _ => n - (intOf i).toNat)
  case atStart => exact ⟨0, Nat.zero_le _, rfl, Ints.nil _ _, Below.refl _ _⟩
  case round =>
    obtain ⟨k, hk, rfl, hO, hb⟩ := hrel
    have hlk := HM.out.2.2.1 k (by rw [HL.out.1]; exact hk)
    obtain ⟨acc, hacc⟩ : ∃ acc, acc = exG (x.take k) := ⟨_, rfl⟩
    rw [← hacc] at hO hlk
    obtain ⟨va, vb, vc, rfl, hrow, -, -⟩ := hO.row
    clear hrow
    obtain ⟨m0, hm0⟩ : ∃ m0, m0 = acc.length := ⟨_, rfl⟩
    rw [← hm0] at hlk
    have hm0' : acc.length = m0 := hm0.symm
    rw [hm0'] at hO ⊢
    have HK := Lib.hid (show _ ∧ _ ∧ _ from ⟨hacc, hm0, hb⟩)
    clear hacc hm0 hm0'
    generalize wr = wo at *
    have hsz := hb.size
    by_cases hlt : k < n
    case neg =>
      obtain rfl : k = n := by omega
      have hxk : acc = exG x := by rw [HK.out.1, List.take_of_length_le (by rw [HL.out.1]; exact Nat.le_refl _)]
      have HXK := Lib.hid hxk
      have HO := Lib.hid hO
      clear hxk hO hb
      go_wp2
      go_loopw [4] (fun s wr => ∃ (j : Nat) (sa : Option Addr) (sc : Nat), m0 + j ≤ nn ∧ s = .slice sa (m0 + j) sc ∧ Ints wr w.heap.size s (acc ++ List.replicate j (-1)) ∧ Below w.heap.size w wr) (fun s _ => match s with | .slice _ q _ => nn - q | _ => 0)
      case atStart => exact ⟨0, va, vc, by omega, rfl, by rw [List.replicate_zero, List.append_nil]; exact HO.out, HK.out.2.2⟩
      case round =>
        obtain ⟨j, sa, sc, hj, rfl, hO, hb⟩ := hrel
        by_cases hjn : m0 + j < nn
        case neg =>
          have HZ := Lib.hid (show _ ∧ _ from ⟨hO, hb⟩)
          have hjj : j = nn - m0 := by omega
          have HJ := Lib.hid hjj
          clear hO hb hjj
          go_wp2
          exact bodyPost_ret (v := .tuple #[.slice sa (m0 + j) sc, .bool true]) (by simp [results, Try.results20, go_sem]) rfl ⟨_, rfl, by unfold padL; rw [← HXK.out, ← HK.out.2.1, ← HJ.out]; exact HZ.out.1, HZ.out.2⟩
        have HZ := Lib.hid (show _ ∧ _ from ⟨hO, hb⟩)
        have hszr := hb.size
        clear hO hb
        go_wp2_with (at_builtin; go_loud (refine wpList_append_int rfl (.tmp 71) (.tmp 72) rfl w.heap.size _ _ (by rfl) (HZ.out.1.alloc _) wr.heap.size (-1) (by rfl) 3 (0, 0) (blk_new _ _) (by rw [List.length_append, List.length_replicate, ← HK.out.2.1]; omega) (by first | omega | (simp; omega)) ?_; intro v2 w2 hO2 hB2 hG2; have HP2 := Lib.hid (show _ ∧ _ from ⟨hO2, ((Below.refl w.heap.size wr).alloc (by omega) _).trans hB2⟩); clear hO2 hB2 hG2))
        obtain ⟨ga, gb, gc, rfl, -⟩ := HP2.out.1.row
        have hgl : (acc ++ List.replicate j (-1) ++ [-1]).length = m0 + (j + 1) := by simp only [List.length_append, List.length_replicate, List.length_singleton, ← HK.out.2.1]; omega
        have HP3 := Lib.hid (show _ ∧ _ from ⟨HP2.out.1, HP2.out.2⟩)
        rw [hgl] at HP3 ⊢
        clear HP2 hgl
        go_roundw
        case rel => exact ⟨j + 1, ga, gc, by omega, rfl, by rw [List.replicate_succ', ← List.append_assoc]; exact HP3.out.1, HZ.out.2.trans HP3.out.2⟩
        case measure => simp only []; omega
    obtain ⟨rfl, hbw⟩ := HL.out.2 (by omega)
    obtain ⟨c0, c1, c2, c3⟩ := (HM.out.1.grown HK.out.2.2).2.2 k hlt
    have hy := HM.out.2.1 k (by rw [HL.out.1]; exact hlt)
    have hyb := HM.out.2.2.2 k (by rw [HL.out.1]; exact hlt)
    have hst := exG_take (x := x) (k := k) (by rw [HL.out.1]; exact hlt)
    rw [← HK.out.1] at hy hst
    rw [← HK.out.2.1] at hy
    generalize nthD x k = y at *
    obtain ⟨y0, y1, y2, y3⟩ := y
    dsimp only at hy hyb c0 c1 c2 c3
    obtain ⟨Y0, rfl⟩ : ∃ Y0 : Nat, y0 = Y0 := ⟨y0.toNat, by omega⟩
    obtain ⟨Y1, rfl⟩ : ∃ Y1 : Nat, y1 = Y1 := ⟨y1.toNat, by omega⟩
    have hst2 : exG (x.take (k + 1)) = acc ++ List.replicate (Y0 - m0) (-1) ++ valsD ((Y0 : Int), (Y1 : Int), y2, y3) Y1 := by
      rw [hst]; unfold exS padL; dsimp only; rw [Int.toNat_natCast, Int.toNat_natCast, ← HK.out.2.1]
    have HST := Lib.hid hst2
    clear hst hst2
    obtain ⟨W2, hW2⟩ : ∃ W2, W2 = wo.alloc (.cells #[.int .i64 (Y0 : Int), .int .i64 (Y1 : Int), .int .i64 y2, .int .i64 y3] 52) := ⟨_, rfl⟩
    have hb2 : Below wo.heap.size wo W2 := by rw [hW2]; exact (Below.refl _ _).alloc (Nat.le_refl _) _
    have hx2 : W2.heap[wo.heap.size]? = some (.cells #[.int .i64 (Y0 : Int), .int .i64 (Y1 : Int), .int .i64 y2, .int .i64 y3] 52 (0, 0)) := by rw [hW2]; exact blk_new _ _
    have hs2 := hb2.size
    have hl2 := (Array.getElem?_eq_some_iff.1 hx2).1
    have H2 := Lib.hid (show _ ∧ _ ∧ _ from ⟨below_after HK.out.2.2 hb2 hsz, hO.below hb2 (Nat.le_refl _), hx2⟩)
    have d0 := blk_cell hx2 0; have d1 := blk_cell hx2 1; have d2 := blk_cell hx2 2
    simp at d0 d1 d2
    clear hb2 hx2 hO hb
    go_upto_region 4 with fail
    rw [← hW2]
    clear hW2 c0 c1 c2 c3
    have t0 : ¬ (Y0 : Int) < (m0 : Int) := by omega
    have t1 : ¬ (Y1 : Int) < 1 := by omega
    have t2 : ¬ y2 < 0 := by omega
    have t3 : ¬ (Y0 : Int) > (nn : Int) := by omega
    have t4 : ¬ (Y1 : Int) > (nn : Int) - (Y0 : Int) := by omega
    have hy2m : Y0 + Y1 ≤ nn := by omega
    go_wp2
    clear t0 t1 t2 t3 t4 d0 d1 d2
    go_loopw [4] (fun s wr => ∃ (j : Nat) (sa : Option Addr) (sc : Nat), m0 + j ≤ Y0 ∧ s = .slice sa (m0 + j) sc ∧ Ints wr w.heap.size s (acc ++ List.replicate j (-1)) ∧ Below w.heap.size w wr ∧ wr.heap[wo.heap.size]? = some (.cells #[.int .i64 (Y0 : Int), .int .i64 (Y1 : Int), .int .i64 y2, .int .i64 y3] 52 (0, 0))) (fun s _ => match s with | .slice _ q _ => Y0 - q | _ => 0)
    case atStart => exact ⟨0, va, vc, by omega, rfl, by rw [List.replicate_zero, List.append_nil]; exact H2.out.2.1, H2.out.1, H2.out.2.2⟩
    case round =>
      obtain ⟨j, sa, sc, hj, rfl, hO, hb, hX⟩ := hrel
      have d0 := blk_cell hX 0
      have d1 := blk_cell hX 1
      simp at d0 d1
      by_cases hjn : m0 + j < Y0
      case pos =>
        have HZ := Lib.hid (show _ ∧ _ ∧ _ from ⟨hO, hb, hX⟩)
        have hszr := hb.size
        have hjn' : ((m0 : Int) + (j : Int)) < (Y0 : Int) := by omega
        have hxl := (Array.getElem?_eq_some_iff.1 hX).1
        clear hO hb hX d1
        go_wp2_with (at_builtin; (refine wpList_append_int rfl (.tmp 50) (.tmp 51) rfl w.heap.size _ _ (by rfl) (HZ.out.1.alloc _) wr.heap.size (-1) (by rfl) 3 (0, 0) (blk_new _ _) (by rw [List.length_append, List.length_replicate, ← HK.out.2.1]; omega) (by first | omega | (simp; omega)) ?_; intro v2 w2 hO2 hB2 hG2; have HP2 := Lib.hid (show _ ∧ _ ∧ _ from ⟨hO2, ((Below.refl w.heap.size wr).alloc (by omega) _).trans hB2, grown_oth hG2 (blk_alloc HZ.out.2.2 _) (ints_ne HZ.out.1 HZ.out.2.2 (by decide))⟩); clear hO2 hB2 hG2))
        obtain ⟨ga, gb, gc, rfl, -⟩ := HP2.out.1.row
        have hgl : (acc ++ List.replicate j (-1) ++ [-1]).length = m0 + (j + 1) := by simp only [List.length_append, List.length_replicate, List.length_singleton, ← HK.out.2.1]; omega
        have HP3 := Lib.hid (show _ ∧ _ ∧ _ from ⟨HP2.out.1, HP2.out.2.1, HP2.out.2.2⟩)
        rw [hgl] at HP3 ⊢
        clear HP2 hgl
        go_roundw
        case rel => exact ⟨j + 1, ga, gc, by omega, rfl, by rw [List.replicate_succ', ← List.append_assoc]; exact HP3.out.1, HZ.out.2.1.trans HP3.out.2.1, HP3.out.2.2⟩
        case measure => simp only []; omega
      have hjj : m0 + j = Y0 := by omega
      obtain ⟨P, hP⟩ : ∃ P, P = acc ++ List.replicate (Y0 - m0) (-1) := ⟨_, rfl⟩
      have hO' : Ints wr w.heap.size (.slice sa (m0 + j) sc) P := by rw [hP, show Y0 - m0 = j by omega]; exact hO
      have hPl : P.length = Y0 := by rw [hP, List.length_append, List.length_replicate, ← HK.out.2.1]; omega
      rw [hjj] at hO' ⊢
      rw [← hP] at HST
      have HPl := Lib.hid hPl
      have HO := Lib.hid (show _ ∧ _ ∧ _ from ⟨hO', hb, hX⟩)
      have hnj : ¬ ((m0 : Int) + (j : Int)) < (Y0 : Int) := by omega
      have hszr := hb.size
      have hxl := (Array.getElem?_eq_some_iff.1 hX).1
      clear hO hO' hb hX hPl hP
      go_wp2
      go_loopw [4, 55] (fun s iv wr => ∃ (i : Nat) (sa : Option Addr) (sc : Nat), i ≤ Y1 ∧ iv = .int .i64 i ∧ s = .slice sa (Y0 + i) sc ∧ Ints wr w.heap.size s (P ++ valsD ((Y0 : Int), (Y1 : Int), y2, y3) i) ∧ Below w.heap.size w wr ∧ wr.heap[wo.heap.size]? = some (.cells #[.int .i64 (Y0 : Int), .int .i64 (Y1 : Int), .int .i64 y2, .int .i64 y3] 52 (0, 0))) (fun _ i _ => Y1 - (intOf i).toNat)
      case atStart => exact ⟨0, sa, sc, Nat.zero_le _, rfl, rfl, by rw [show valsD ((Y0 : Int), (Y1 : Int), y2, y3) 0 = [] from rfl, List.append_nil]; exact HO.out.1, HO.out.2.1, HO.out.2.2⟩
      case round =>
        obtain ⟨i, sa, sc, hi, rfl, rfl, hO, hb, hX⟩ := hrel
        have HZ := Lib.hid (show _ ∧ _ ∧ _ from ⟨hO, hb, hX⟩)
        have hszr := hb.size
        have hxl := (Array.getElem?_eq_some_iff.1 hX).1
        have d2 := blk_cell hX 2
        simp at d2
        clear hO hb hX
        by_cases hin : i < Y1
        case pos =>
          have hw1 : -9223372036854775808 ≤ y2 + (i : Int) ∧ y2 + (i : Int) ≤ 9223372036854775807 := by omega
          have hw2 : wrap64 (y2 + (i : Int)) = y2 + (i : Int) := by unfold wrap64; omega
          go_wp2_with (at_builtin; (refine wpList_append_int rfl (.tmp 58) (.tmp 63) rfl w.heap.size _ _ (by rfl) (HZ.out.1.alloc _) wr.heap.size (y2 + (i : Int)) (by rfl) 3 (0, 0) (blk_new _ _) (by rw [List.length_append, valsD_len, HPl.out]; omega) (by first | omega | (simp; omega)) ?_; intro v2 w2 hO2 hB2 hG2; have HP2 := Lib.hid (show _ ∧ _ ∧ _ from ⟨hO2, ((Below.refl w.heap.size wr).alloc (by omega) _).trans hB2, grown_oth hG2 (blk_alloc HZ.out.2.2 _) (ints_ne HZ.out.1 HZ.out.2.2 (by decide))⟩); clear hO2 hB2 hG2))
          obtain ⟨ga, gb, gc, rfl, -⟩ := HP2.out.1.row
          have hgl : (P ++ valsD ((Y0 : Int), (Y1 : Int), y2, y3) i ++ [y2 + (i : Int)]).length = Y0 + (i + 1) := by simp only [List.length_append, valsD_len, List.length_singleton, HPl.out]; omega
          have HP3 := Lib.hid (show _ ∧ _ ∧ _ from ⟨HP2.out.1, HP2.out.2.1, HP2.out.2.2⟩)
          rw [hgl] at HP3 ⊢
          clear HP2 hgl
          go_roundw
          case rel => exact ⟨i + 1, ga, gc, by omega, by simp, rfl, by rw [valsD_succ, ← List.append_assoc]; exact HP3.out.1, HZ.out.2.1.trans HP3.out.2.1, HP3.out.2.2⟩
          case measure => simp [intOf]; omega
        have hii : i = Y1 := by omega
        subst hii
        have hl2 : ((P ++ valsD ((Y0 : Int), (i : Int), y2, y3) i).length) = Y0 + i := by simp only [List.length_append, valsD_len, HPl.out]
        go_wp2
        go_roundw
        case rel => exact ⟨k + 1, by omega, by simp, by rw [HST.out]; exact HZ.out.1, HZ.out.2.1⟩
        case measure => simp [intOf]; omega
end Go.Proofs.Ythnhnmmabjmjgaa
