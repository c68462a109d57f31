/- Walks of laws of gestures (layer 12). -/
import Derived.Test.YtmblkmllamccnaaGesLawB
namespace Go.Proofs.Ytmblkmllamccnaa
open Go.ChangeShapes Go.WideShapes Go.ChangeAt Go.RowKit

theorem Gs.postB {w : World} {a : Option Addr} {n b off : Nat} {l : List Gt} (h : Gs w a n b off l) {k cap : Nat} (hk : k ≤ n) (hc : n ≤ cap) (hn : a = none → cap = 0) :
    ∃ b3 o3, Gs w (if cap = k then a else a.map (·.add (k * 5))) (n - k) b3 o3 (l.drop k) ∧ ((if cap = k then a else a.map (·.add (k * 5))) = none → cap - k = 0) ∧ (0 < n - k → b3 = b) := by
  obtain ⟨b3, o3, h1, h2⟩ := h.post hk hc hn
  refine ⟨b3, o3, h1, h2, fun h0 => ?_⟩
  have e1 := (h1.2.1 h0).1
  rw [(h.2.1 (by omega)).1, if_neg (by omega)] at e1
  simp only [Option.map_some, Option.some.injEq, Addr.add] at e1
  first
    | (split at e1 <;> (simp only [Addr.mk.injEq] at e1; exact e1.1.symm))
    | (simp only [Addr.mk.injEq] at e1; exact e1.1.symm)

set_option maxRecDepth 100000 in
set_option maxHeartbeats 8000000 in
theorem gesturesEach_walk (sa : Option Addr) (sb soff sn scap : Nat) (base : List Int) (f : Int) (a : Option Addr) (b off n cap : Nat) (l : List Gt) (w : World) (hM : Gs w a n b off l) (hbM : 0 < n → ∃ c tb fr, w.heap[b]? = some (.cells c tb fr)) (hn : n ≤ 9223372036854775807) (hR : Row w sa sb soff sn base) (hsn : sn ≤ 9223372036854775807) (hsc : sa = none → scap = 0) (hw : ∀ x ∈ base, (Lit.int .i64 x).wf = true) (f1 : 0 ≤ f) (f2 : f ≤ 4294967295) :
    Calls Try.prog 9 #[.slice sa sn scap, .int .u32 f, .slice a n cap] w fun e w' => e = .returned (.bool true) ∧ Below w.heap.size w w' := by
  have HR := Lib.hid (show _ ∧ _ from ⟨hR, hw⟩)
  have hbl := hR.len
  clear hR hw
  have hbb : 0 < n → b < w.heap.size := fun h0 => (hM.2.1 h0).2
  have HM := Lib.hid (show _ ∧ _ from ⟨hM, hbM⟩)
  have hl := hM.1
  have hbk : ∀ w', Below w.heap.size w w' → 0 < n → ∃ c tb fr, w'.heap[b]? = some (.cells c tb fr) := fun w' hb h0 => by
    obtain ⟨c, tb, fr, h1⟩ := HM.out.2 h0
    exact ⟨c, tb, fr, blk_below h1 hb (hbb h0)⟩
  have HBK := Lib.hid hbk
  clear hM hbM hbk
  go_enter Try.func9, Try.ntmps9
  go_wp2_with fail
  refine (sane_any _).mono ?_; rintro e w1 ⟨rfl, hB1⟩
  go_wp2_with fail
  refine (rgfew_any a b off n cap l _ (HM.out.1.grown hB1) hn).mono ?_; rintro e w' ⟨hF, rfl⟩
  rcases hF with rfl | ⟨rfl, hf70⟩
  · go_wp2
    go_ret
    exact ⟨rfl, hB1⟩
  have HB1 := Lib.hid hB1; clear hB1
  by_cases hch : Ges l
  case neg =>
    have hc := chkG_no hch
    clear hch
    go_wp2_with fail
    refine (rgcheck_any a b off n cap l _ (HM.out.1.grown HB1.out) hn).mono ?_; rintro e w2 ⟨rfl, hb⟩; rw [hc]
    have HB2 := Lib.hid (below_after HB1.out hb HB1.out.size); clear hb hc
    go_wp2
    go_ret
    exact ⟨rfl, HB2.out⟩
  have hc := chkG_yes hch
  have hn64 : n ≤ 64 := by rw [← hl]; exact hch.1
  have HC := Lib.hid hch
  clear hch
  go_wp2_with fail
  refine (rgcheck_any a b off n cap l _ (HM.out.1.grown HB1.out) hn).mono ?_; rintro e w2 ⟨rfl, hb⟩; rw [hc]
  have HB2 := Lib.hid (below_after HB1.out hb HB1.out.size); clear hb hc
  by_cases h60 : sn ≤ 60
  case neg =>
    have d : decide ((60 : Int) < (sn : Int)) = true := decide_eq_true (by omega)
    go_wp2
    go_ret
    exact ⟨rfl, HB2.out⟩
  have d : decide ((60 : Int) < (sn : Int)) = false := decide_eq_false (by omega)
  go_wp2_with fail
  refine (gvalues_any sa sb soff sn scap base f a b off n cap l _ (HR.out.1.below HB2.out (Nat.le_refl _)) hsn hsc HR.out.2 (HM.out.1.grown HB2.out) (HBK.out _ HB2.out) hn (by omega) (by omega)).mono ?_; rintro e w3 ⟨hV, hb⟩
  have HB3 := Lib.hid (below_after HB2.out hb HB2.out.size); clear hb
  rcases hV with ⟨hG, _⟩ | ⟨_, hx, _⟩ | ⟨_, hx, v, rfl, hI⟩
  · exact absurd HC.out hG
  · omega
  obtain ⟨av, bv, cv, hv, hr, _, _⟩ := hI.row
  rw [gvals_len] at hv hr
  subst hv
  have HI := Lib.hid hr
  clear hI hr
  go_wp2
  go_loopw [47] (fun i wr => ∃ k : Nat, k ≤ sn ∧ i = .int .i64 k ∧ Below w3.heap.size w3 wr) (fun i _ => sn - (intOf i).toNat)
  case atStart => exact ⟨0, Nat.zero_le _, rfl, Below.refl _ _⟩
  case round =>
    obtain ⟨k, hk, rfl, hB⟩ := hrel
    by_cases hlt : k < sn
    case neg =>
      obtain rfl : k = sn := by omega
      have HB4 := Lib.hid (below_after HB3.out hB HB3.out.size); clear hB
      go_wp2
      go_ret
      exact ⟨rfl, HB4.out⟩
    have hB0 := below_after HB3.out hB HB3.out.size
    have c0 := (HR.out.1.below hB0 (Nat.le_refl _)).cel k hlt
    obtain rfl := HR.out.1.adr (by omega)
    have hr := HI.out.below hB (Nat.le_refl _)
    obtain rfl := hr.adr (by omega)
    have hwf := HR.out.2 (base.getD k 0) (by rw [List.getD_eq_getElem?_getD]; simp [show k < base.length by omega])
    have hg : (gvals l base f sn).getD k 0 = allG (base.getD k 0) l (f + (k : Int)) := by
      unfold gvals
      rw [getD_map_range hlt]
    generalize base.getD k 0 = x at *
    have HB4 := Lib.hid (show _ ∧ _ ∧ _ ∧ _ from ⟨hB0, hB, hg, hr⟩)
    clear hB hB0 hg hr
    go_wp2_with fail
    refine (gvalue_any x (f + (k : Int)) a b off n cap l _ (HM.out.1.grown HB4.out.1) (HBK.out _ HB4.out.1) hn hwf (by omega) (by omega)).mono ?_; rintro e w5 ⟨rfl, hb⟩
    rw [gvalV_yes HC.out, chkG_yes HC.out]
    have d0 := (HB4.out.2.2.2.below hb (Nat.le_refl _)).cel k hlt
    rw [HB4.out.2.2.1, Nat.zero_add] at d0
    have HB5 := Lib.hid (below_after HB4.out.2.1 hb HB4.out.2.1.size); clear hb
    generalize allG x l (f + (k : Int)) = y at *
    go_wp2
    go_roundw
    case rel => exact ⟨k + 1, by omega, by go_num, HB5.out⟩
    case measure => simp [intOf]; omega

set_option maxRecDepth 100000 in
set_option maxHeartbeats 8000000 in
theorem gesturesDivide_walk (v p ct : Int) (a : Option Addr) (b off n cap : Nat) (l : List Gt) (w : World) (hM : Gs w a n b off l) (hbM : 0 < n → ∃ c tb fr, w.heap[b]? = some (.cells c tb fr)) (hn : n ≤ 9223372036854775807) (hnc : a = none → cap = 0) (hlc : n ≤ cap) (v0 : (Lit.int .i64 v).wf = true) (p1 : -9223372036854775808 ≤ p) (p2 : p ≤ 9223372036854775807) :
    Calls Try.prog 5 #[.int .i64 v, .slice a n cap, .int .i64 p, .int .i64 ct] w fun e w' => e = .returned (.bool true) ∧ Below w.heap.size w w' := by
  have hbb : 0 < n → b < w.heap.size := fun h0 => (hM.2.1 h0).2
  have HM := Lib.hid (show _ ∧ _ from ⟨hM, hbM⟩)
  have hl := hM.1
  have hbk : ∀ w', Below w.heap.size w w' → 0 < n → ∃ c tb fr, w'.heap[b]? = some (.cells c tb fr) := fun w' hb h0 => by
    obtain ⟨c, tb, fr, h1⟩ := HM.out.2 h0
    exact ⟨c, tb, fr, blk_below h1 hb (hbb h0)⟩
  have HBK := Lib.hid hbk
  clear hM hbM hbk
  go_enter Try.func5, Try.ntmps5
  go_wp2_with fail
  refine (sane_any _).mono ?_; rintro e w1 ⟨rfl, hB1⟩
  go_wp2_with fail
  refine (rgfew_any a b off n cap l _ (HM.out.1.grown hB1) hn).mono ?_; rintro e w' ⟨hF, rfl⟩
  rcases hF with rfl | ⟨rfl, hf70⟩
  · go_wp2
    go_ret
    exact ⟨rfl, hB1⟩
  have HB1 := Lib.hid hB1; clear hB1
  by_cases hch : Ges l
  case neg =>
    have hc := chkG_no hch
    clear hch
    go_wp2_with fail
    refine (rgcheck_any a b off n cap l _ (HM.out.1.grown HB1.out) hn).mono ?_; rintro e w2 ⟨rfl, hb⟩; rw [hc]
    have HB2 := Lib.hid (below_after HB1.out hb HB1.out.size); clear hb hc
    go_wp2
    go_ret
    exact ⟨rfl, HB2.out⟩
  have hc := chkG_yes hch
  have hn64 : n ≤ 64 := by rw [← hl]; exact hch.1
  have HC := Lib.hid hch
  clear hch
  go_wp2_with fail
  refine (rgcheck_any a b off n cap l _ (HM.out.1.grown HB1.out) hn).mono ?_; rintro e w2 ⟨rfl, hb⟩; rw [hc]
  have HB2 := Lib.hid (below_after HB1.out hb HB1.out.size); clear hb hc
  obtain ⟨K, hK, hKn⟩ : ∃ K : Nat, wrap64 ((IntKind.u64.wrap ct).tmod ((n : Int) + 1)) = (K : Int) ∧ K ≤ n := by
    have h0 : 0 ≤ IntKind.u64.wrap ct := by rw [IntKind.wrap_u64]; omega
    have h1 := Int.tmod_nonneg ((n : Int) + 1) h0
    have h2 := Int.tmod_lt_of_pos (IntKind.u64.wrap ct) (b := (n : Int) + 1) (by omega)
    refine ⟨((IntKind.u64.wrap ct).tmod ((n : Int) + 1)).toNat, ?_, by omega⟩
    rw [IntWalk.wrap64_in _ (by omega)]
    omega
  have HK := Lib.hid hK
  clear hK
  go_wp2_with fail
  rw [HK.out]
  refine (gvalue_any v p a b off n cap l _ (HM.out.1.grown HB2.out) (HBK.out _ HB2.out) hn v0 p1 p2).mono ?_; rintro e w4 ⟨rfl, hb⟩
  rw [gvalV_yes HC.out, chkG_yes HC.out]
  have HB4 := Lib.hid (below_after HB2.out hb HB2.out.size); clear hb
  have kc : K ≤ cap := by omega
  have hwf : (Lit.int .i64 (allG v (l.take K) p)).wf = true := by
    have bv := bounds_i64 v0
    have := allG_take_in (p := p) K HC.out bv.1 bv.2
    simp [Lit.wf, IntKind.min, IntKind.max, IntKind.signed, IntKind.bits]
    omega
  have HWF := Lib.hid hwf
  clear hwf
  go_wp2_with fail
  refine (gvalue_any v p a b off K cap (l.take K) _ ((HM.out.1.grown HB4.out).pre hKn) (fun h => HBK.out _ HB4.out (by omega)) (by omega) v0 p1 p2).mono ?_; rintro e w5 ⟨rfl, hb⟩
  rw [gvalV_yes (ges_take HC.out K), chkG_yes (ges_take HC.out K)]
  have HB5 := Lib.hid (below_after HB4.out hb HB4.out.size); clear hb
  obtain ⟨b3, o3, hG3, hn3, hb3⟩ := Gs.postB (HM.out.1.grown HB5.out) hKn hlc hnc
  have hsp := allG_split v l K p
  have hno : (∀ j, j < n → ¬ ((nthG l j).f ≤ p ∧ p < (nthG l j).u)) → allG v l p = v := fun h => allG_none l v fun g hg => by
    obtain ⟨i, hi, rfl⟩ := List.mem_iff_getElem.1 hg
    have := h i (by omega)
    unfold nthG at this
    simpa [List.getD_eq_getElem?_getD, hi] using this
  have HSP := Lib.hid (show _ ∧ _ from ⟨hsp, hno⟩)
  clear hsp hno
  by_cases hcK : cap = K
  · rw [if_pos hcK] at hG3 hn3
    have HG3 := Lib.hid (show _ ∧ _ from ⟨hG3, hb3⟩)
    clear hG3 hb3
    have hcK2 := hcK
    go_wp2_with fail
    refine (gvalue_any (allG v (l.take K) p) p _ b3 o3 (n - K) _ (l.drop K) _ HG3.out.1 (fun h => by rw [HG3.out.2 h]; exact HBK.out _ HB5.out (by omega)) (by omega) HWF.out p1 p2).mono ?_; rintro e w6 ⟨rfl, hb⟩
    rw [gvalV_yes (ges_drop HC.out K), chkG_yes (ges_drop HC.out K), ← HSP.out.1]
    have HB6 := Lib.hid (below_after HB5.out hb HB5.out.size); clear hb
    generalize hX : allG v l p = X at *
    have HX := Lib.hid hX
    clear hX
    go_wp2
    go_loopw [78] (fun i wr => ∃ k : Nat, k ≤ n ∧ i = .int .i64 k ∧ (∀ j, j < k → ¬ ((nthG l j).f ≤ p ∧ p < (nthG l j).u)) ∧ Below w.heap.size w wr) (fun i _ => n - (intOf i).toNat)
    case atStart => exact ⟨0, Nat.zero_le _, rfl, fun j hj => by omega, HB6.out⟩
    case round =>
      obtain ⟨k, hk, rfl, hno, hB⟩ := hrel
      by_cases hlt : k < n
      case neg =>
        obtain rfl : k = n := by omega
        have HB7 := Lib.hid hB; clear hB
        have hXv : X = v := by rw [← HX.out]; rw [← HX.out] at HSP; exact HSP.out.2 hno
        have hXb : (X == v) = true := by simpa using hXv
        have HXV := Lib.hid hXv
        clear hno hXv
        go_wp2
        go_ret
        exact ⟨by simp, HB7.out⟩
      obtain ⟨rfl, hbw⟩ := HM.out.1.2.1 (by omega)
      obtain ⟨⟨c0, c1, c2, c3, c4⟩, _⟩ := (HM.out.1.grown hB).2.2 k hlt
      have hz := hB.size
      have hcs : ¬ ((nthG l k).f ≤ p ∧ p < (nthG l k).u) → ∀ j, j < k + 1 → ¬ ((nthG l j).f ≤ p ∧ p < (nthG l j).u) := fun h j hj => by
        by_cases e : j = k
        · subst e; exact h
        · exact hno j (by omega)
      generalize nthG l k = g at hcs c0 c1 c2 c3 c4
      have HB7 := Lib.hid (hB.alloc hz (.cells #[.int .i64 g.m, .int .i64 g.f, .int .i64 g.t, .int .i64 g.u, .slice g.ka g.kn g.kc] 38)); clear hB
      have HCS := Lib.hid hcs
      clear hcs hno
      by_cases h2 : g.f ≤ p
      case neg =>
        have HY := Lib.hid (HCS.out fun h => h2 h.1)
        go_wp2
        go_roundw
        case rel => exact ⟨k + 1, by omega, by go_num, HY.out, HB7.out⟩
        case measure => simp [intOf]; omega
      by_cases h3 : p < g.u
      · go_wp2
        go_ret
        exact ⟨rfl, HB7.out⟩
      · have HY := Lib.hid (HCS.out fun h => h3 h.2)
        go_wp2
        go_roundw
        case rel => exact ⟨k + 1, by omega, by go_num, HY.out, HB7.out⟩
        case measure => simp [intOf]; omega
  · rw [if_neg hcK] at hG3 hn3
    have HG3 := Lib.hid (show _ ∧ _ from ⟨hG3, hb3⟩)
    clear hG3 hb3
    go_wp2_with fail
    refine (gvalue_any (allG v (l.take K) p) p _ b3 o3 (n - K) _ (l.drop K) _ HG3.out.1 (fun h => by rw [HG3.out.2 h]; exact HBK.out _ HB5.out (by omega)) (by omega) HWF.out p1 p2).mono ?_; rintro e w6 ⟨rfl, hb⟩
    rw [gvalV_yes (ges_drop HC.out K), chkG_yes (ges_drop HC.out K), ← HSP.out.1]
    have HB6 := Lib.hid (below_after HB5.out hb HB5.out.size); clear hb
    generalize hX : allG v l p = X at *
    have HX := Lib.hid hX
    clear hX
    go_wp2
    go_loopw [78] (fun i wr => ∃ k : Nat, k ≤ n ∧ i = .int .i64 k ∧ (∀ j, j < k → ¬ ((nthG l j).f ≤ p ∧ p < (nthG l j).u)) ∧ Below w.heap.size w wr) (fun i _ => n - (intOf i).toNat)
    case atStart => exact ⟨0, Nat.zero_le _, rfl, fun j hj => by omega, HB6.out⟩
    case round =>
      obtain ⟨k, hk, rfl, hno, hB⟩ := hrel
      by_cases hlt : k < n
      case neg =>
        obtain rfl : k = n := by omega
        have HB7 := Lib.hid hB; clear hB
        have hXv : X = v := by rw [← HX.out]; rw [← HX.out] at HSP; exact HSP.out.2 hno
        have hXb : (X == v) = true := by simpa using hXv
        have HXV := Lib.hid hXv
        clear hno hXv
        go_wp2
        go_ret
        exact ⟨by simp, HB7.out⟩
      obtain ⟨rfl, hbw⟩ := HM.out.1.2.1 (by omega)
      obtain ⟨⟨c0, c1, c2, c3, c4⟩, _⟩ := (HM.out.1.grown hB).2.2 k hlt
      have hz := hB.size
      have hcs : ¬ ((nthG l k).f ≤ p ∧ p < (nthG l k).u) → ∀ j, j < k + 1 → ¬ ((nthG l j).f ≤ p ∧ p < (nthG l j).u) := fun h j hj => by
        by_cases e : j = k
        · subst e; exact h
        · exact hno j (by omega)
      generalize nthG l k = g at hcs c0 c1 c2 c3 c4
      have HB7 := Lib.hid (hB.alloc hz (.cells #[.int .i64 g.m, .int .i64 g.f, .int .i64 g.t, .int .i64 g.u, .slice g.ka g.kn g.kc] 38)); clear hB
      have HCS := Lib.hid hcs
      clear hcs hno
      by_cases h2 : g.f ≤ p
      case neg =>
        have HY := Lib.hid (HCS.out fun h => h2 h.1)
        go_wp2
        go_roundw
        case rel => exact ⟨k + 1, by omega, by go_num, HY.out, HB7.out⟩
        case measure => simp [intOf]; omega
      by_cases h3 : p < g.u
      · go_wp2
        go_ret
        exact ⟨rfl, HB7.out⟩
      · have HY := Lib.hid (HCS.out fun h => h3 h.2)
        go_wp2
        go_roundw
        case rel => exact ⟨k + 1, by omega, by go_num, HY.out, HB7.out⟩
        case measure => simp [intOf]; omega
end Go.Proofs.Ytmblkmllamccnaa
