/- The contracts of gestures.Value and Values (layer 12). -/
import Derived.Test.YtmblkmllamccnaaGesVals
namespace Go.Proofs.Ytmblkmllamccnaa
open Go.ChangeShapes Go.WideShapes Go.ChangeAt Go.RowKit

set_option maxHeartbeats 4000000 in
theorem gvalue_any (v p : Int) (a : Option Addr) (b off n cap : Nat) (l : List Gt) (w : World) (h : Gs w a n b off l) (hbM : 0 < n → ∃ c tb fr, w.heap[b]? = some (.cells c tb fr)) (hn : n ≤ 9223372036854775807) (v0 : (Lit.int .i64 v).wf = true) (p1 : -9223372036854775808 ≤ p) (p2 : p ≤ 9223372036854775807) :
    Calls Try.prog 12 #[.int .i64 v, .slice a n cap, .int .i64 p] w fun e w' => e = .returned (.tuple #[.int .i64 (gvalV l v p), .int .i64 (chkG l)]) ∧ Below w.heap.size w w' := by
  have HK := Lib.hid (show _ ∧ _ ∧ _ from ⟨h, hbM, v0⟩)
  have hbb : 0 < n → b < w.heap.size := fun h0 => (h.2.1 h0).2
  clear h hbM v0
  by_cases hch : Ges l
  · rw [gvalV_yes hch, chkG_yes hch]
    have hc := chkG_yes hch
    have HC := Lib.hid hch
    clear hch
    go_enter Try.func12, Try.ntmps12
    go_wp2_with fail
    refine (gcheck_any a b off n cap l _ HK.out.1 hn).mono ?_; rintro e w1 ⟨rfl, hB⟩; rw [hc]
    have hs1 := hB.size
    have hB2 := hB.alloc hs1 (.cells #[.int .i64 v] 3)
    have HB2 := Lib.hid (show _ ∧ _ from ⟨hB2, blk_new w1 (.cells #[.int .i64 v] 3)⟩)
    clear hB hB2 hc
    go_wp2_with fail
    have hrow : Row (w1.alloc (.cells #[.int .i64 v] 3)) (some ⟨w1.heap.size, 0, none⟩) w1.heap.size 0 1 [v] := ⟨rfl, fun _ => rfl, fun _ => by simp, fun i hi => by
      obtain rfl : i = 0 := by omega
      exact blk_cell HB2.out.2 0⟩
    refine (callsIn_wide.1 (gvals_in (some ⟨w1.heap.size, 0, none⟩) w1.heap.size 0 1 1 [v] p a b off n cap l _ hrow (by omega) (fun h => by cases h) (fun x hx => by rw [List.mem_singleton.1 hx]; exact HK.out.2.2) (HK.out.1.grown HB2.out.1) (fun h0 => by obtain ⟨c, tb, fr, h1⟩ := HK.out.2.1 h0; exact ⟨c, tb, fr, blk_below h1 HB2.out.1 (hbb h0)⟩) HC.out p1 p2)).mono ?_
    rintro e w3 ⟨⟨r, rfl, hI⟩, hb⟩
    have hB3 := below_after HB2.out.1 hb HB2.out.1.size
    have hlen := gvals_len l [v] p 1
    obtain ⟨gb, c, rfl, _⟩ := hI.inBlock hlen (by omega)
    have d0 := hI.cellAt hlen 0 (by omega)
    have hg : (gvals l [v] p 1).getD 0 0 = allG v l p := by
      unfold gvals
      rw [getD_map_range (by omega)]
      simp
    rw [hg] at d0
    have HB3 := Lib.hid hB3
    clear hb hB3 hI hlen hg hrow
    go_wp2
    exact bodyPost_ret (by simp [results, Try.results12, go_sem]) rfl ⟨rfl, HB3.out⟩
  · rw [gvalV_no hch, chkG_no hch]
    have hc := chkG_no hch
    clear hch
    go_enter Try.func12, Try.ntmps12
    go_wp2_with fail
    refine (gcheck_any a b off n cap l _ HK.out.1 hn).mono ?_; rintro e w1 ⟨rfl, hB⟩; rw [hc]
    clear hc
    go_wp2
    exact bodyPost_ret (by simp [results, Try.results12, go_sem]) rfl ⟨rfl, hB⟩

set_option maxHeartbeats 4000000 in
theorem gvalues_any (sa : Option Addr) (sb soff sn scap : Nat) (base : List Int) (f : Int) (a : Option Addr) (b off n cap : Nat) (l : List Gt) (w : World) (hR : Row w sa sb soff sn base) (hsn : sn ≤ 9223372036854775807) (hsc : sa = none → scap = 0) (hw : ∀ x ∈ base, (Lit.int .i64 x).wf = true) (h : Gs w a n b off l) (hbM : 0 < n → ∃ c tb fr, w.heap[b]? = some (.cells c tb fr)) (hn : n ≤ 9223372036854775807)
    (f1 : -9223372036854775808 ≤ f) (f2 : f ≤ 9223372036854775807) :
    Calls Try.prog 16 #[.slice sa sn scap, .int .i64 f, .slice a n cap] w fun e w' => GvR l base f sn w e w' ∧ Below w.heap.size w w' := by
  have hbb : 0 < n → b < w.heap.size := fun h0 => (h.2.1 h0).2
  have HK := Lib.hid (show _ ∧ _ ∧ _ ∧ _ from ⟨h, hR, hw, hbM⟩)
  clear h hR hw hbM
  unfold GvR
  by_cases hch : Ges l
  case neg =>
    have hc := chkG_no hch
    have HC := Lib.hid hch
    clear hch
    go_enter Try.func16, Try.ntmps16
    go_wp2_with fail
    refine (gcheck_any a b off n cap l _ HK.out.1 hn).mono ?_; rintro e w1 ⟨rfl, hB⟩; rw [hc]
    clear hc
    go_wp2
    exact bodyPost_ret (by simp [results, Try.results16, go_sem]) rfl ⟨.inl ⟨HC.out, rfl⟩, hB⟩
  have hc := chkG_yes hch
  have HC := Lib.hid hch
  clear hch
  by_cases q4 : 65536 < sn
  · have z : decide ((65536 : Int) < (sn : Int)) = true := decide_eq_true (by omega)
    go_enter Try.func16, Try.ntmps16
    go_wp2_with fail
    refine (gcheck_any a b off n cap l _ HK.out.1 hn).mono ?_; rintro e w1 ⟨rfl, hB⟩; rw [hc]
    clear hc
    go_wp2
    exact bodyPost_ret (by simp [results, Try.results16, go_sem]) rfl ⟨.inr (.inl ⟨HC.out, q4, rfl⟩), hB⟩
  have z : decide ((65536 : Int) < (sn : Int)) = false := decide_eq_false (by omega)
  go_enter Try.func16, Try.ntmps16
  go_wp2_with fail
  refine (gcheck_any a b off n cap l _ HK.out.1 hn).mono ?_; rintro e w1 ⟨rfl, hB⟩; rw [hc]
  clear hc
  have HB1 := Lib.hid hB
  clear hB
  go_wp2_with fail
  refine (callsIn_wide.1 (gvals_in sa sb soff sn scap base f a b off n cap l _ (HK.out.2.1.below HB1.out (Nat.le_refl _)) (by omega) hsc HK.out.2.2.1 (HK.out.1.grown HB1.out) (fun h0 => by obtain ⟨c, tb, fr, h1⟩ := HK.out.2.2.2 h0; exact ⟨c, tb, fr, blk_below h1 HB1.out (hbb h0)⟩) HC.out f1 f2)).mono ?_
  rintro e w3 ⟨⟨r, rfl, hI⟩, hb⟩
  have HE := Lib.hid (show _ ∧ _ from ⟨hI.mono HB1.out.size, below_after HB1.out hb HB1.out.size⟩)
  obtain ⟨gb, c, rfl⟩ := hI.isSlice
  clear hb hI
  go_wp2
  exact bodyPost_ret (by simp [results, Try.results16, go_sem]) rfl ⟨.inr (.inr ⟨HC.out, by omega, _, rfl, HE.out.1⟩), HE.out.2⟩

set_option maxHeartbeats 4000000 in
theorem same_true (a a' : Option Addr) (b b' off off' n n' cap cap' : Nat) (l l' : List Int) (w : World) (h : Row w a b off n l) (h' : Row w a' b' off' n' l') (hn : n ≤ 16777216) (he : l = l') :
    Calls Try.prog 18 #[.slice a n cap, .slice a' n' cap'] w fun e w' => e = .returned (.bool true) ∧ Below w.heap.size w w' := by
  subst he
  obtain rfl : n = n' := by rw [← h.len, h'.len]
  have HR := Lib.hid h; have HR' := Lib.hid h'; clear h h'
  go_enter Try.func18, Try.ntmps18
  go_wp2
  go_loopw [13] (fun i wr => ∃ k : Nat, k ≤ n ∧ i = .int .i64 k ∧ Below w.heap.size w wr) (fun i _ => n - (intOf i).toNat)
  case atStart => exact ⟨0, Nat.zero_le _, rfl, Below.refl _ _⟩
  case round =>
    obtain ⟨k, hk, rfl, hB⟩ := hrel
    by_cases hlt : k < n
    · obtain rfl := HR.out.adr (by omega)
      obtain rfl := HR'.out.adr (by omega)
      have c0 := (HR.out.below hB (Nat.le_refl _)).cel k hlt
      have d0 := (HR'.out.below hB (Nat.le_refl _)).cel k hlt
      generalize l.getD k 0 = x at *
      go_wp2
      go_quiet (fail)
      go_wp2
      go_roundw
      case rel => exact ⟨k + 1, by omega, by go_num, below_drewN hB _⟩
      case measure => simp [intOf]; omega
    · obtain rfl : k = n := by omega
      go_wp2
      go_ret
      exact ⟨rfl, hB⟩
end Go.Proofs.Ytmblkmllamccnaa
