/- The contracts of curves.Value and curves.Values (layer 11). -/
import Derived.Test.YtmblkmllamccnaaCrvVal
import Derived.Test.YtmblkmllamccnaaOwnSt
namespace Go.Proofs.Ytmblkmllamccnaa
open Go.ChangeShapes Go.WideShapes Go.ChangeAt Go.RowKit

noncomputable def valV (l : List Kt) (at' : Int) : Int := by classical exact if Curve l then valC l at' else 0
theorem valV_yes {l : List Kt} (h : Curve l) (at' : Int) : valV l at' = valC l at' := if_pos h
theorem valV_no {l : List Kt} (h : ¬ Curve l) (at' : Int) : valV l at' = 0 := if_neg h

set_option maxHeartbeats 2000000 in
theorem cvalue_any (a : Option Addr) (b off n cap : Nat) (l : List Kt) (at' : Int) (w : World) (h : Ks w a n b off l) (hn : n ≤ 9223372036854775807) (hnc : a = none → cap = 0) (hlc : n ≤ cap) :
    Calls Try.prog 35 #[.slice a n cap, .int .i64 at'] w fun e w' => e = .returned (.tuple #[.int .i64 (valV l at'), .int .i64 (chkC l)]) ∧ Below w.heap.size w w' := by
  have HK := Lib.hid h
  clear h
  by_cases hch : Curve l
  · rw [valV_yes hch, chkC_yes hch]
    have hc := chkC_yes hch
    have HC := Lib.hid hch
    clear hch
    go_enter Try.func35, Try.ntmps35
    go_wp2_with fail
    refine (ccheck_any a b off n cap l _ HK.out hn hnc hlc).mono ?_; rintro e w1 ⟨rfl, hB⟩; rw [hc]
    go_wp2_with fail
    refine (value_any a b off n cap l at' _ (HK.out.grown hB) HC.out).mono ?_; rintro e w2 ⟨rfl, hb⟩
    replace hB := below_after hB hb hB.size
    clear hb hc
    go_wp2
    exact bodyPost_ret (by simp [results, Try.results35, go_sem]) rfl ⟨rfl, hB⟩
  · rw [valV_no hch, chkC_no hch]
    have hc := chkC_no hch
    clear hch
    go_enter Try.func35, Try.ntmps35
    go_wp2_with fail
    refine (ccheck_any a b off n cap l _ HK.out hn hnc hlc).mono ?_; rintro e w1 ⟨rfl, hB⟩; rw [hc]
    clear hc
    go_wp2
    exact bodyPost_ret (by simp [results, Try.results35, go_sem]) rfl ⟨rfl, hB⟩

theorem madeInts {w wr w1 : World} {M : Nat} (hB : Below w.heap.size w wr)
    (hS : w1.ownsRow w.heap.size 3 1 (.slice (some ⟨wr.heap.size, 0, none⟩) M M) M (madeCells (Value.int .i64 0).cells (M * 1)).toList) (hG : wr.grownBy w1 none) :
    Ints w1 w.heap.size (.slice (some ⟨wr.heap.size, 0, none⟩) M M) (List.replicate M 0) ∧ Below w.heap.size w w1 := by
  refine ⟨?_, hB.trans ((Below.refl _ _).grown hG hB.size (fun _ h => by cases h))⟩
  unfold Ints
  rw [List.length_replicate, List.map_replicate]
  have e : (madeCells (Value.int .i64 0).cells (M * 1)).toList = List.replicate M (Value.int .i64 0) := by
    apply List.ext_getElem?
    intro i
    by_cases hi : i < M
    · simp [madeCells, Value.cells, hi, Nat.mod_one]
    · simp [madeCells, Value.cells, hi]
  rw [← e]
  exact hS
/-- The first k of n values are there. -/
def valsK (l : List Kt) (from' : Int) (n k : Nat) : List Int := (List.range n).map fun i => if i < k then valC l (from' + (i : Int)) else 0
def vals (l : List Kt) (from' : Int) (n : Nat) : List Int := (List.range n).map fun (i : Nat) => valC l (from' + (i : Int))
theorem valsK_len (l : List Kt) (from' : Int) (n k : Nat) : (valsK l from' n k).length = n := by simp [valsK]
theorem valsK_zero (l : List Kt) (from' : Int) (n : Nat) : valsK l from' n 0 = List.replicate n 0 := by
  apply List.ext_getElem?
  intro i
  by_cases hi : i < n <;> simp [valsK, hi]
theorem valsK_all (l : List Kt) (from' : Int) (n : Nat) : valsK l from' n n = vals l from' n := by
  apply List.ext_getElem?
  intro i
  by_cases hi : i < n <;> simp [valsK, vals, hi]
theorem valsK_succ (l : List Kt) (from' : Int) (n k : Nat) (h : k < n) : (valsK l from' n k).set k (valC l (from' + (k : Int))) = valsK l from' n (k + 1) := by
  apply List.ext_getElem?
  intro i
  rw [List.getElem?_set]
  by_cases hi : i < n
  · by_cases e : k = i
    · subst e; simp [valsK, hi]
    · rw [if_neg e]
      have : (i < k) ↔ (i < k + 1) := by omega
      simp [valsK, hi, this]
  · have : ¬ k = i := by omega
    rw [if_neg this]; simp [valsK, hi]

/-- The error of Values. -/
noncomputable def valsE (l : List Kt) (from' n : Int) : Int := by classical exact if Curve l then (if (-1099511627776 ≤ from' ∧ from' ≤ 1099511627776) ∧ 0 ≤ n then (if n ≤ 65536 then 0 else 2) else 1) else 110
theorem valsE_no {l : List Kt} {f n : Int} (h : ¬ Curve l) : valsE l f n = 110 := if_neg h
theorem valsE_arg {l : List Kt} {f n : Int} (h : Curve l) (h1 : ¬ ((-1099511627776 ≤ f ∧ f ≤ 1099511627776) ∧ 0 ≤ n)) : valsE l f n = 1 := (if_pos h).trans (if_neg h1)
theorem valsE_lim {l : List Kt} {f n : Int} (h : Curve l) (h1 : (-1099511627776 ≤ f ∧ f ≤ 1099511627776) ∧ 0 ≤ n) (h2 : ¬ n ≤ 65536) : valsE l f n = 2 := (if_pos h).trans ((if_pos h1).trans (if_neg h2))
theorem valsE_ok {l : List Kt} {f n : Int} (h : Curve l) (h1 : (-1099511627776 ≤ f ∧ f ≤ 1099511627776) ∧ 0 ≤ n) (h2 : n ≤ 65536) : valsE l f n = 0 := (if_pos h).trans ((if_pos h1).trans (if_pos h2))
/-- What Values answers. -/
def ValsR (l : List Kt) (f N : Int) (w : World) (e : Ending) (w' : World) : Prop :=
  (valsE l f N ≠ 0 ∧ e = .returned (.tuple #[.slice none 0 0, .int .i64 (valsE l f N)])) ∨ (valsE l f N = 0 ∧ Curve l ∧ (-1099511627776 ≤ f ∧ f ≤ 1099511627776) ∧ ∃ n : Nat, N = n ∧ n ≤ 65536 ∧ ∃ v, e = .returned (.tuple #[v, .int .i64 0]) ∧ Ints w' w.heap.size v (vals l f n))

set_option maxHeartbeats 4000000 in
theorem cvalues_any (a : Option Addr) (b off n cap : Nat) (l : List Kt) (f N : Int) (w : World) (h : Ks w a n b off l) (hn : n ≤ 9223372036854775807) (hnc : a = none → cap = 0) (hlc : n ≤ cap) :
    Calls Try.prog 34 #[.slice a n cap, .int .i64 f, .int .i64 N] w fun e w' => ValsR l f N w e w' ∧ Below w.heap.size w w' := by
  have HK := Lib.hid h
  clear h
  unfold ValsR
  by_cases hch : Curve l
  case neg =>
    have e := valsE_no (f := f) (n := N) hch
    rw [e]
    have hc := chkC_no hch
    clear hch e
    go_enter Try.func34, Try.ntmps34
    go_wp2_with fail
    refine (ccheck_any a b off n cap l _ HK.out hn hnc hlc).mono ?_; rintro e w1 ⟨rfl, hB⟩; rw [hc]
    clear hc
    go_wp2
    exact bodyPost_ret (by simp [results, Try.results34, go_sem]) rfl ⟨.inl ⟨by decide, rfl⟩, hB⟩
  have hc := chkC_yes hch
  have HC := Lib.hid hch
  clear hch
  by_cases q1 : -1099511627776 ≤ f ∧ f ≤ 1099511627776
  case neg =>
    have e := valsE_arg (l := l) (f := f) (n := N) HC.out (fun h => q1 h.1)
    rw [e]
    have v1 := within_f q1
    clear q1 e
    go_enter Try.func34, Try.ntmps34
    go_wp2_with fail
    refine (ccheck_any a b off n cap l _ HK.out hn hnc hlc).mono ?_; rintro e w1 ⟨rfl, hB⟩; rw [hc]
    clear hc
    go_wp2_with (go_at_call 29; refine (within_any _ _ _ _).mono ?_; rintro e w' ⟨rfl, rfl⟩)
    exact bodyPost_ret (by simp [results, Try.results34, go_sem]) rfl ⟨.inl ⟨by decide, rfl⟩, hB⟩
  have v1 := within_t q1
  by_cases q2 : N < 0
  · have e := valsE_arg (l := l) (f := f) (n := N) HC.out (fun h => by omega)
    rw [e]
    clear e q1
    go_enter Try.func34, Try.ntmps34
    go_wp2_with fail
    refine (ccheck_any a b off n cap l _ HK.out hn hnc hlc).mono ?_; rintro e w1 ⟨rfl, hB⟩; rw [hc]
    clear hc
    go_wp2_with (go_at_call 29; refine (within_any _ _ _ _).mono ?_; rintro e w' ⟨rfl, rfl⟩)
    exact bodyPost_ret (by simp [results, Try.results34, go_sem]) rfl ⟨.inl ⟨by decide, rfl⟩, hB⟩
  by_cases q3 : 65536 < N
  · have e := valsE_lim (l := l) (f := f) (n := N) HC.out ⟨q1, by omega⟩ (by omega)
    rw [e]
    clear e q1
    go_enter Try.func34, Try.ntmps34
    go_wp2_with fail
    refine (ccheck_any a b off n cap l _ HK.out hn hnc hlc).mono ?_; rintro e w1 ⟨rfl, hB⟩; rw [hc]
    clear hc
    go_wp2_with (go_at_call 29; refine (within_any _ _ _ _).mono ?_; rintro e w' ⟨rfl, rfl⟩)
    exact bodyPost_ret (by simp [results, Try.results34, go_sem]) rfl ⟨.inl ⟨by decide, rfl⟩, hB⟩
  obtain ⟨M, rfl⟩ : ∃ M : Nat, N = M := ⟨N.toNat, by omega⟩
  have e := valsE_ok (l := l) (f := f) (n := M) HC.out ⟨q1, by omega⟩ (by omega)
  rw [e]
  have hM : M ≤ 65536 := by omega
  have HQ := Lib.hid q1
  have q1a := q1.1
  have q1b := q1.2
  clear e q1
  obtain ⟨i0, hi, hz0, hz1, hz2⟩ := info_parts info_int
  go_enter Try.func34, Try.ntmps34
  go_wp2_with fail
  refine (ccheck_any a b off n cap l _ HK.out hn hnc hlc).mono ?_; rintro e w1 ⟨rfl, hB⟩; rw [hc]
  clear hc
  go_wp2_with (first | (go_at_call 29; refine (within_any _ _ _ _).mono ?_; rintro e w' ⟨rfl, rfl⟩) | (at_make; refine wpList_make_full _ rfl _ _ 30 rfl w.heap.size 3 i0 (.int .i64 0) 1 Try.underlying30 hi hz0 hz1 _ _ _ _ M rfl rfl (by simp) (by simp) (by rw [hz2]; omega) (by unfold maxLen; omega) hB.size ?_; intro w2 hS hG; have HI := Lib.hid (madeInts hB hS hG); clear hS hG))
  have hs1 := hB.size
  clear hB
  go_loopw [28] (fun i wr => ∃ k : Nat, k ≤ M ∧ i = .int .i64 k ∧ Ints wr w.heap.size (.slice (some ⟨w1.heap.size, 0, none⟩) M M) (valsK l f M k) ∧ Below w.heap.size w wr) (fun i _ => M - (intOf i).toNat)
  case atStart => exact ⟨0, Nat.zero_le _, rfl, by rw [valsK_zero]; exact HI.out.1, HI.out.2⟩
  case round =>
    obtain ⟨k, hk, rfl, hI, hB⟩ := hrel
    have HI2 := Lib.hid (show _ ∧ _ from ⟨hI, hB⟩)
    clear hI hB HI
    by_cases hlt : k < M
    · have i2 : (k : Int) < (M : Int) := by omega
      have uf : IntKind.i64.wrap (f + (k : Int)) = f + (k : Int) := wrap_id (by omega)
      have uk : IntKind.i64.wrap ((k : Int) + 1) = (k : Int) + 1 := wrap_id (by omega)
      go_wp2_with (go_at_call 45; refine (value_any a b off n cap l (f + (k : Int)) _ (HK.out.grown HI2.out.2) HC.out).mono ?_; rintro e w5 ⟨rfl, hb5⟩; have hI5 := HI2.out.1.below hb5 (Nat.le_refl _); have c5 := hI5.cellAt (valsK_len l f M k) k hlt; have f5 := hI5.freeAt (valsK_len l f M k) k; have HI5 := Lib.hid (show _ ∧ _ from ⟨hI5.stored (valsK_len l f M k) k (valC l (f + (k : Int))), below_after HI2.out.2 hb5 HI2.out.2.size⟩); clear hI5 hb5)
      go_roundw
      case rel => exact ⟨k + 1, by omega, by go_num, by rw [← valsK_succ l f M k hlt]; exact HI5.out.1, HI5.out.2.setCell (p := ⟨w1.heap.size, k, none⟩) hs1 _⟩
      case measure => simp [intOf] <;> omega
    · obtain rfl : k = M := by omega
      have hE := HI2.out.1
      rw [valsK_all] at hE
      go_wp2
      exact bodyPost_ret (v := .tuple #[.slice (some ⟨w1.heap.size, 0, none⟩) k k, .int .i64 0]) (by simp [results, Try.results34, go_sem]) rfl ⟨.inr ⟨trivial, HC.out, HQ.out, k, rfl, hM, _, rfl, hE⟩, HI2.out.2⟩
end Go.Proofs.Ytmblkmllamccnaa
