/- The reference's All, Value and Values of gestures (layer 12). -/
import Derived.Test.YtmblkmllamccnaaGesRef
import Derived.Test.YtmblkmllamccnaaOwnRow
namespace Go.Proofs.Ytmblkmllamccnaa
open Go.ChangeShapes Go.WideShapes Go.ChangeAt Go.RowKit

theorem made_in {v p : Int} {g : Gt} (h : okG g) (v1 : -9223372036854775808 ≤ v) (v2 : v ≤ 9223372036854775807) : -9223372036854775808 ≤ made v g p ∧ made v g p ≤ 9223372036854775807 := by
  unfold made chg
  have hc := valC_in h.2.2.2.2.2.2.2 (min p (g.t - 1))
  split
  · split
    · have l1 := clip_lo (v + valC g.ks (min p (g.t - 1))); have l2 := clip_hi (v + valC g.ks (min p (g.t - 1))); omega
    · omega
  · exact ⟨v1, v2⟩
theorem allG_in {p : Int} : ∀ (l : List Gt) (v : Int), (∀ g ∈ l, okG g) → -9223372036854775808 ≤ v → v ≤ 9223372036854775807 → -9223372036854775808 ≤ allG v l p ∧ allG v l p ≤ 9223372036854775807 := by
  intro l
  induction l with
  | nil => intro v _ h1 h2; exact ⟨h1, h2⟩
  | cons g l ih =>
    intro v h h1 h2
    have hm := made_in (p := p) (h g (by simp)) h1 h2
    exact ih (made v g p) (fun x hx => h x (by simp [hx])) hm.1 hm.2
theorem ges_mem {l : List Gt} (h : Ges l) : ∀ g ∈ l, okG g := by
  intro g hg
  obtain ⟨i, hi, rfl⟩ := List.mem_iff_getElem.1 hg
  have := h.2 i hi
  unfold nthG at this
  simpa [List.getD_eq_getElem?_getD, hi] using this
theorem allG_take_in {p v : Int} {l : List Gt} (k : Nat) (h : Ges l) (h1 : -9223372036854775808 ≤ v) (h2 : v ≤ 9223372036854775807) : -9223372036854775808 ≤ allG v (l.take k) p ∧ allG v (l.take k) p ≤ 9223372036854775807 :=
  allG_in _ v (fun g hg => ges_mem h g (List.mem_of_mem_take hg)) h1 h2
theorem allG_out {p : Int} : ∀ (l : List Gt) (v : Int), (∀ g ∈ l, okG g) → 1099511627776 ≤ p → allG v l p = v := by
  intro l
  induction l with
  | nil => intro v _ _; rfl
  | cons g l ih =>
    intro v h hp
    have hg := h g (by simp)
    have e : made v g p = v := if_neg (by have := hg.2.2.2.2.1; omega)
    show allG (made v g p) l p = v
    rw [e]
    exact ih v (fun x hx => h x (by simp [hx])) hp
/-- What gestures make of values. -/
def gvals (l : List Gt) (base : List Int) (f : Int) (n : Nat) : List Int := (List.range n).map fun (i : Nat) => allG (base.getD i 0) l (f + (i : Int))
theorem gvals_len (l : List Gt) (base : List Int) (f : Int) (n : Nat) : (gvals l base f n).length = n := by simp [gvals]
theorem gvals_succ (l : List Gt) (base : List Int) (f : Int) (k : Nat) : gvals l base f (k + 1) = gvals l base f k ++ [allG (base.getD k 0) l (f + (k : Int))] := by
  unfold gvals
  rw [List.range_succ, List.map_append]; rfl
noncomputable def gvalV (l : List Gt) (base p : Int) : Int := by classical exact if Ges l then allG base l p else 0
theorem gvalV_yes {l : List Gt} (h : Ges l) (base p : Int) : gvalV l base p = allG base l p := if_pos h
theorem gvalV_no {l : List Gt} (h : ¬ Ges l) (base p : Int) : gvalV l base p = 0 := if_neg h

set_option maxHeartbeats 4000000 in
theorem rall_any (v p : Int) (a : Option Addr) (b off n cap : Nat) (l : List Gt) (w : World) (h : Gs w a n b off l) (hok : Ges l) (v1 : -9223372036854775808 ≤ v) (v2 : v ≤ 9223372036854775807) :
    Calls Try.prog 22 #[.int .i64 v, .slice a n cap, .int .i64 p] w fun e w' => e = .returned (.int .i64 (allG v l p)) ∧ Below w.heap.size w w' := by
  have hl := h.1
  have HK := Lib.hid (show _ ∧ _ from ⟨h, hok⟩)
  have hn : n ≤ 64 := by rw [← hl]; exact hok.1
  clear h hok
  go_enter Try.func22, Try.ntmps22
  go_wp2
  go_loopw [0, 7] (fun s i wr => ∃ k : Nat, k ≤ n ∧ i = .int .i64 k ∧ s = .int .i64 (allG v (l.take k) p) ∧ Below w.heap.size w wr) (fun _ i _ => n - (intOf i).toNat)
  case atStart => exact ⟨0, Nat.zero_le _, rfl, rfl, Below.refl _ _⟩
  case round =>
    obtain ⟨k, hk, rfl, rfl, hB⟩ := hrel
    by_cases hlt : k < n
    case neg =>
      obtain rfl : k = n := by omega
      rw [show l.take k = l by rw [← hl]; exact List.take_length]
      go_wp2
      go_ret
      exact ⟨rfl, hB⟩
    obtain ⟨rfl, hbw⟩ := HK.out.1.2.1 (by omega)
    obtain ⟨⟨c0, c1, c2, c3, c4⟩, hGK⟩ := (HK.out.1.grown hB).2.2 k hlt
    have hg := HK.out.2.2 k (by omega)
    have hin := allG_take_in (p := p) k HK.out.2 v1 v2
    have hs := allG_snoc v (l.take k) (nthG l k) p
    rw [← takeG_succ (by omega)] at hs
    generalize allG v (l.take k) p = y at *
    generalize nthG l k = g at *
    have HS := Lib.hid (show _ ∧ _ ∧ _ ∧ _ from ⟨hs, hGK, hg, hB⟩)
    clear hs hGK hg hB
    have HE : encG g = .agg #[.int .i64 g.m, .int .i64 g.f, .int .i64 g.t, .int .i64 g.u, .slice g.ka g.kn g.kc] := rfl
    have HE := Lib.hid HE
    go_wp2_with fail
    refine (HE.out ▸ rmade_any y p g _ HS.out.2.1 HS.out.2.2.1 hin.1 hin.2).mono ?_; rintro e w2 ⟨rfl, hb⟩
    have HB2 := Lib.hid (below_after HS.out.2.2.2 hb HS.out.2.2.2.size)
    clear hb
    go_wp2
    go_roundw
    case rel => exact ⟨k + 1, by omega, by go_num, by rw [HS.out.1], HB2.out⟩
    case measure => simp [intOf]; omega

set_option maxHeartbeats 2000000 in
theorem rgvalue_any (v p : Int) (a : Option Addr) (b off n cap : Nat) (l : List Gt) (w : World) (h : Gs w a n b off l) (hn : n ≤ 9223372036854775807) (v1 : -9223372036854775808 ≤ v) (v2 : v ≤ 9223372036854775807) :
    Calls Try.prog 13 #[.int .i64 v, .slice a n cap, .int .i64 p] w fun e w' => e = .returned (.tuple #[.int .i64 (gvalV l v p), .int .i64 (chkG l)]) ∧ Below w.heap.size w w' := by
  have HK := Lib.hid h
  clear h
  by_cases hch : Ges l
  · rw [gvalV_yes hch, chkG_yes hch]
    have hc := chkG_yes hch
    have HC := Lib.hid hch
    clear hch
    go_enter Try.func13, Try.ntmps13
    go_wp2_with fail
    refine (rgcheck_any a b off n cap l _ HK.out hn).mono ?_; rintro e w1 ⟨rfl, hB⟩; rw [hc]
    go_wp2_with fail
    refine (rall_any v p a b off n cap l _ (HK.out.grown hB) HC.out v1 v2).mono ?_; rintro e w2 ⟨rfl, hb⟩
    replace hB := below_after hB hb hB.size
    clear hb hc
    go_wp2
    exact bodyPost_ret (by simp [results, Try.results13, go_sem]) rfl ⟨rfl, hB⟩
  · rw [gvalV_no hch, chkG_no hch]
    have hc := chkG_no hch
    clear hch
    go_enter Try.func13, Try.ntmps13
    go_wp2_with fail
    refine (rgcheck_any a b off n cap l _ HK.out hn).mono ?_; rintro e w1 ⟨rfl, hB⟩; rw [hc]
    clear hc
    go_wp2
    exact bodyPost_ret (by simp [results, Try.results13, go_sem]) rfl ⟨rfl, hB⟩

/-- What Values answers. -/
def GvR (l : List Gt) (base : List Int) (f : Int) (n : Nat) (w : World) (e : Ending) (w' : World) : Prop :=
  (¬ Ges l ∧ e = .returned (.tuple #[.slice none 0 0, .int .i64 120])) ∨ (Ges l ∧ 65536 < n ∧ e = .returned (.tuple #[.slice none 0 0, .int .i64 2])) ∨
  (Ges l ∧ n ≤ 65536 ∧ ∃ v, e = .returned (.tuple #[v, .int .i64 0]) ∧ Ints w' w.heap.size v (gvals l base f n))

set_option maxHeartbeats 4000000 in
theorem rgvalues_any (sa : Option Addr) (sb soff sn scap : Nat) (base : List Int) (f : Int) (a : Option Addr) (b off n cap : Nat) (l : List Gt) (w : World) (hR : Row w sa sb soff sn base) (hsn : sn ≤ 9223372036854775807) (hw : ∀ x ∈ base, (Lit.int .i64 x).wf = true) (h : Gs w a n b off l) (hn : n ≤ 9223372036854775807)
    (f1 : -9223372036854775808 ≤ f) (f2 : f ≤ 9223372036854775807) :
    Calls Try.prog 17 #[.slice sa sn scap, .int .i64 f, .slice a n cap] w fun e w' => GvR l base f sn w e w' ∧ Below w.heap.size w w' := by
  have HK := Lib.hid (show _ ∧ _ ∧ _ from ⟨h, hR, hw⟩)
  have hbl := hR.len
  clear h hR hw
  unfold GvR
  by_cases hch : Ges l
  case neg =>
    have hc := chkG_no hch
    have HC := Lib.hid hch
    clear hch
    go_enter Try.func17, Try.ntmps17
    go_wp2_with fail
    refine (rgcheck_any a b off n cap l _ HK.out.1 hn).mono ?_; rintro e w1 ⟨rfl, hB⟩; rw [hc]
    clear hc
    go_wp2
    exact bodyPost_ret (by simp [results, Try.results17, go_sem]) rfl ⟨.inl ⟨HC.out, rfl⟩, hB⟩
  have hc := chkG_yes hch
  have HC := Lib.hid hch
  clear hch
  by_cases q4 : 65536 < sn
  · have z : decide ((65536 : Int) < (sn : Int)) = true := decide_eq_true (by omega)
    go_enter Try.func17, Try.ntmps17
    go_wp2_with fail
    refine (rgcheck_any a b off n cap l _ HK.out.1 hn).mono ?_; rintro e w1 ⟨rfl, hB⟩; rw [hc]
    clear hc
    go_wp2
    exact bodyPost_ret (by simp [results, Try.results17, go_sem]) rfl ⟨.inr (.inl ⟨HC.out, q4, rfl⟩), hB⟩
  have z : decide ((65536 : Int) < (sn : Int)) = false := decide_eq_false (by omega)
  go_enter Try.func17, Try.ntmps17
  go_wp2_with fail
  refine (rgcheck_any a b off n cap l _ HK.out.1 hn).mono ?_; rintro e w1 ⟨rfl, hB⟩; rw [hc]
  clear hc
  have HB1 := Lib.hid hB
  have hs1 := hB.size
  clear hB
  go_wp2
  go_loopw [9, 10, 11] (fun v t i wr => ∃ (k : Nat) (tt : Int), k ≤ sn ∧ i = .int .i64 k ∧ t = .int .i64 tt ∧ ((tt = f + k ∧ tt ≤ 9223372036854775807) ∨ (tt = 9223372036854775807 ∧ 9223372036854775807 ≤ f + k)) ∧ Ints wr w.heap.size v (gvals l base f k) ∧ Below w.heap.size w wr) (fun _ _ i _ => sn - (intOf i).toNat)
  case atStart => exact ⟨0, f, Nat.zero_le _, rfl, rfl, .inl ⟨by omega, by omega⟩, Ints.nil _ _, HB1.out⟩
  case round =>
    obtain ⟨k, tt, hk, rfl, rfl, htt, hO, hB⟩ := hrel
    have HI2 := Lib.hid (show _ ∧ _ from ⟨hO, hB⟩)
    clear HB1
    by_cases hlt : k < sn
    · have hs := hB.size
      have hx := bounds_i64 (HK.out.2.2 (base.getD k 0) (by rw [List.getD_eq_getElem?_getD]; simp [show k < base.length by omega]))
      have hall : allG (base.getD k 0) l tt = allG (base.getD k 0) l (f + (k : Int)) := by
        rcases htt with ⟨e, _⟩ | ⟨e, e2⟩
        · rw [e]
        · rw [allG_out l _ (ges_mem HC.out) (by omega), allG_out l _ (ges_mem HC.out) (by omega)]
      have c0 := (HK.out.2.1.below hB (Nat.le_refl _)).cel k hlt
      obtain rfl := HK.out.2.1.adr (by omega)
      generalize hxe : base.getD k 0 = x at *
      have HA := Lib.hid (show _ ∧ _ ∧ _ from ⟨hall, hxe, htt⟩)
      have htt2 : -9223372036854775808 ≤ tt ∧ tt ≤ 9223372036854775807 ∧ (tt = 9223372036854775807 ∨ tt < 9223372036854775807) := by omega
      clear hO hB hall hxe htt
      have hin := allG_in (p := tt) l x (ges_mem HC.out) hx.1 hx.2
      obtain ⟨t1, t2, t3⟩ := htt2
      have w9 : wrap64 9223372036854775808 = -9223372036854775808 := by unfold wrap64; omega
      rcases t3 with rfl | t3
      all_goals
        go_wp2_with (first | (go_at_call 22; refine (rall_any x _ a b off n cap l _ (HK.out.1.grown HI2.out.2) HC.out hx.1 hx.2).mono ?_; rintro e w5 ⟨rfl, hb5⟩; have hO5 := HI2.out.1.below hb5 (Nat.le_refl _); have hB5 := below_after HI2.out.2 hb5 HI2.out.2.size; have hs5 := hB5.size; clear hb5) | (at_builtin; refine wpList_append_int rfl _ _ rfl w.heap.size _ _ rfl (hO5.alloc _) _ _ rfl _ _ (blk_new _ _) (by rw [gvals_len]; omega) (by simp; omega) ?_; intro v' w6 hO6 hB6 hgx; have HO6 := Lib.hid (show _ ∧ _ from ⟨hO6, (hB5.alloc hs5 _).trans hB6⟩); clear hgx hO6 hB6 hO5 hB5))
        go_roundw
        case rel => exact ⟨k + 1, _, by omega, by go_num, rfl, by have := HA.out.2.2; omega, by rw [gvals_succ, HA.out.2.1, ← HA.out.1]; exact HO6.out.1, HO6.out.2⟩
        case measure => simp [intOf] <;> omega
    · obtain rfl : k = sn := by omega
      clear hO hB
      go_wp2
      exact bodyPost_ret (by simp [results, Try.results17, go_sem]) rfl ⟨.inr (.inr ⟨HC.out, by omega, _, rfl, HI2.out.1⟩), HI2.out.2⟩
end Go.Proofs.Ytmblkmllamccnaa
