/- The contract of curves.Resolve (layer 11). -/
import Derived.Test.YtafffmcmdhbghaaCrvStay
import Derived.Test.YtafffmcmdhbghaaTemSampF
namespace Go.Proofs.Ytafffmcmdhbghaa
open Go.RowKit Go.Shelf

attribute [local go_sem] Oper.semAt_some

/-- The first k knots at their samples, the others at their ticks. -/
def mvK (m : List Tp) (l : List Kt) (k : Nat) : List Kt := (List.range l.length).map fun i => if i < k then ((smp m (nthK l i).1, (nthK l i).2) : Kt) else nthK l i
def mvL (m : List Tp) (l : List Kt) : List Kt := (List.range l.length).map fun i => ((smp m (nthK l i).1, (nthK l i).2) : Kt)
/-- The knots that stay. -/
def stL (x : List Kt) (is : List Nat) : List Kt := is.map (nthK x)
def stays (x : List Kt) : List Kt := stL x ((List.range x.length).filter (stB x x.length))
theorem mvK_len (m : List Tp) (l : List Kt) (k : Nat) : (mvK m l k).length = l.length := by simp [mvK]
theorem mvL_len (m : List Tp) (l : List Kt) : (mvL m l).length = l.length := by simp [mvL]
theorem mvK_nth {m : List Tp} {l : List Kt} {k i : Nat} (h : i < l.length) : nthK (mvK m l k) i = if i < k then ((smp m (nthK l i).1, (nthK l i).2) : Kt) else nthK l i := by
  unfold nthK mvK
  simp [List.getD_eq_getElem?_getD, h, nthK]
theorem mvL_nth {m : List Tp} {l : List Kt} {i : Nat} (h : i < l.length) : nthK (mvL m l) i = (smp m (nthK l i).1, (nthK l i).2) := by
  unfold nthK mvL
  simp [List.getD_eq_getElem?_getD, h, nthK]
theorem mvK_zero (m : List Tp) (l : List Kt) : mvK m l 0 = l := by
  apply List.ext_getElem?
  intro i
  by_cases h : i < l.length
  · simp [mvK, h, nthK, List.getD_eq_getElem?_getD]
  · simp [mvK, h]
theorem mvK_all (m : List Tp) (l : List Kt) : mvK m l l.length = mvL m l := by
  apply List.ext_getElem?
  intro i
  by_cases h : i < l.length
  · simp [mvK, mvL, h]
  · simp [mvK, mvL, h]
theorem mvK_succ {m : List Tp} {l : List Kt} {k : Nat} (h : k < l.length) : (mvK m l k).set k (smp m (nthK l k).1, (nthK l k).2) = mvK m l (k + 1) := by
  apply List.ext_getElem?
  intro i
  rw [List.getElem?_set]
  by_cases hi : i < l.length
  · by_cases e : k = i
    · subst e; simp [mvK, hi]
    · rw [if_neg e]
      have : (i < k) ↔ (i < k + 1) := by omega
      simp [mvK, hi, this]
  · have : ¬ k = i := by omega
    rw [if_neg this]; simp [mvK, hi]
/-- All knots have samples. -/
def inPos (m : List Tp) (l : List Kt) (k : Nat) : Prop := ∀ i, i < k → smp m (nthK l i).1 ≤ 1099511627776
noncomputable def resE (m : List Tp) (l : List Kt) : Int := by classical exact if Map m then (if Lane 16777216 l then (if inPos m l l.length then chkC (stays (mvL m l)) else 70) else 110) else 90
theorem resE_map {m : List Tp} {l : List Kt} (h : ¬ Map m) : resE m l = 90 := if_neg h
theorem resE_lane {m : List Tp} {l : List Kt} (h : Map m) (h2 : ¬ Lane 16777216 l) : resE m l = 110 := (if_pos h).trans (if_neg h2)
theorem resE_pos {m : List Tp} {l : List Kt} (h : Map m) (h2 : Lane 16777216 l) (h3 : ¬ inPos m l l.length) : resE m l = 70 := (if_pos h).trans ((if_pos h2).trans (if_neg h3))
theorem resE_ok {m : List Tp} {l : List Kt} (h : Map m) (h2 : Lane 16777216 l) (h3 : inPos m l l.length) : resE m l = chkC (stays (mvL m l)) := (if_pos h).trans ((if_pos h2).trans (if_pos h3))
/-- What Resolve answers. -/
def ResR (m : List Tp) (l : List Kt) (w : World) (e : Ending) (w' : World) : Prop :=
  (resE m l ≠ 0 ∧ e = .returned (.tuple #[.slice none 0 0, .int .i64 (resE m l)])) ∨ (resE m l = 0 ∧ Curve (stays (mvL m l)) ∧ ∃ v, e = .returned (.tuple #[v, .int .i64 0]) ∧ KsO w' w.heap.size v (stays (mvL m l)))

theorem KsO.stored1 {w : World} {B g n c : Nat} {l : List Kt} (h : KsO w B (.slice (some ⟨g, 0, none⟩) n c) l) (hn : l.length = n) (i : Nat) (hi : i < n) (x : Int) :
    KsO (w.setCell ⟨g, i * 5, none⟩ (.int .i64 x)) B (.slice (some ⟨g, 0, none⟩) n c) (l.set i (x, (nthK l i).2)) := by
  subst hn
  have h1 := (World.ownsRow.stored h (i * 5) (.int .i64 x)).1
  unfold KsO
  rw [List.length_set, encLK_set _ l i hi]
  obtain ⟨e0, e1, e2, e3, e4⟩ := encLK_get l i hi
  have e : ((((((encLK l).set (i * 5) (.int .i64 x)).set (i * 5 + 1) (.int .i64 (nthK l i).2.1)).set (i * 5 + 2) (.int .i64 (nthK l i).2.2.1)).set (i * 5 + 3) (.int .i64 (nthK l i).2.2.2.1)).set (i * 5 + 4) (.int .i64 (nthK l i).2.2.2.2)) = (encLK l).set (i * 5) (.int .i64 x) := by
    apply List.ext_getElem?
    intro j
    have hlen := encLK_len l
    simp only [List.getElem?_set, List.length_set]
    by_cases j4 : i * 5 + 4 = j
    · subst j4; rw [if_pos rfl, if_pos (by omega), if_neg (by omega)]; exact e4.symm
    · rw [if_neg j4]
      by_cases j3 : i * 5 + 3 = j
      · subst j3; rw [if_pos rfl, if_pos (by omega), if_neg (by omega)]; exact e3.symm
      · rw [if_neg j3]
        by_cases j2 : i * 5 + 2 = j
        · subst j2; rw [if_pos rfl, if_pos (by omega), if_neg (by omega)]; exact e2.symm
        · rw [if_neg j2]
          by_cases j1 : i * 5 + 1 = j
          · subst j1; rw [if_pos rfl, if_pos (by omega), if_neg (by omega)]; exact e1.symm
          · rw [if_neg j1]
  rw [← e] at h1
  exact h1

theorem blk_has2 {w w' : World} {n b : Nat} (h : 0 < n → ∃ c tb fr, w.heap[b]? = some (.cells c tb fr)) (hb : Below w.heap.size w w') : 0 < n → ∃ c tb fr, w'.heap[b]? = some (.cells c tb fr) := fun hn => by
  obtain ⟨c, tb, fr, h1⟩ := h hn
  exact ⟨c, tb, fr, blk_below h1 hb (Array.getElem?_eq_some_iff.1 h1).1⟩

set_option maxRecDepth 100000 in
set_option maxHeartbeats 8000000 in
theorem resolve_no (ma : Option Addr) (mb moff mn mcap : Nat) (m : List Tp) (a : Option Addr) (b off n cap : Nat) (l : List Kt) (w : World) (hT : Ts w ma mn mb moff m) (hmn : mn ≤ 9223372036854775807) (hmb : 0 < mn → ∃ c tb fr, w.heap[mb]? = some (.cells c tb fr)) (hK : Ks w a n b off l) (hn : n ≤ 9223372036854775807) (hnc : a = none → cap = 0)
    (hno : ¬ (Map m ∧ Lane 16777216 l ∧ inPos m l l.length)) :
    Calls Try.prog 20 #[.slice ma mn mcap, .slice a n cap] w fun e w' => ResR m l w e w' ∧ Below w.heap.size w w' := by
  have HH := Lib.hid (show _ ∧ _ ∧ _ from ⟨hT, hmb, hK⟩)
  have hl := hK.1
  clear hT hmb hK
  unfold ResR
  by_cases hm : Map m
  case neg =>
    have e := resE_map (l := l) hm
    rw [e]
    have hc := chk_no hm
    clear hm e hno
    have hB0 : Below w.heap.size w (w.alloc (.cells #[.slice none 0 0] 22)) := (Below.refl _ _).alloc (Nat.le_refl _) _
    go_enter Try.func20, Try.ntmps20
    go_wp2_with fail
    refine (tcheck_any ma mn mcap mb moff m _ (HH.out.1.grown hB0) hmn).mono ?_; rintro e w1 ⟨rfl, hb⟩; rw [hc]
    have k1 := blk_below (blk_new w (.cells #[.slice none 0 0] 22)) hb (by simp)
    have hB1 := below_after hB0 hb hB0.size
    clear hc hb
    have c0 := blk_cell k1 0; have f0 := blk_free k1 0
    simp at c0 f0
    go_wp2
    have tp := blk_cell (cells_setK (i := 0) (v := .slice none 0 0) k1) 0
    simp at tp
    exact bodyPost_ret (v := .tuple #[.slice none 0 0, .int .i64 90]) (by simp [results, Try.results20, go_sem, tp]) rfl ⟨.inl ⟨by decide, rfl⟩, hB1.setCell (p := ⟨w.heap.size, 0, none⟩) (Nat.le_refl _) _⟩
  have hc := chk_yes hm
  by_cases hv : Lane 16777216 l
  case neg =>
    have e := resE_lane hm hv
    rw [e]
    have ev := laneB_f hv
    clear hm e hno hv
    have hB0 : Below w.heap.size w (w.alloc (.cells #[.slice none 0 0] 22)) := (Below.refl _ _).alloc (Nat.le_refl _) _
    go_enter Try.func20, Try.ntmps20
    go_wp2_with fail
    refine (tcheck_any ma mn mcap mb moff m _ (HH.out.1.grown hB0) hmn).mono ?_; rintro e w1 ⟨rfl, hb⟩; rw [hc]
    have k1 := blk_below (blk_new w (.cells #[.slice none 0 0] 22)) hb (by simp)
    have hB1 := below_after hB0 hb hB0.size
    clear hc hb
    go_wp2_with fail
    refine (valid_any a b off n cap l _ _ (HH.out.2.2.grown hB1) hn).mono ?_; rintro e w2 ⟨rfl, hb⟩; rw [ev]
    have k2 := blk_below k1 hb (Array.getElem?_eq_some_iff.1 k1).1
    have hB2 := below_after hB1 hb hB1.size
    clear hb k1 hB1 ev
    have c0 := blk_cell k2 0; have f0 := blk_free k2 0
    simp at c0 f0
    go_wp2
    have tp := blk_cell (cells_setK (i := 0) (v := .slice none 0 0) k2) 0
    simp at tp
    exact bodyPost_ret (v := .tuple #[.slice none 0 0, .int .i64 110]) (by simp [results, Try.results20, go_sem, tp]) rfl ⟨.inl ⟨by decide, rfl⟩, hB2.setCell (p := ⟨w.heap.size, 0, none⟩) (Nat.le_refl _) _⟩
  have hp : ¬ inPos m l l.length := fun h => hno ⟨hm, hv, h⟩
  have e := resE_pos hm hv hp
  rw [e]
  have ev := laneB_t hv
  have hn2 : n ≤ 1024 := by rw [← hl]; exact hv.1
  have HV := Lib.hid (show _ ∧ _ ∧ _ from ⟨hm, hv, hp⟩)
  clear hm e hno hv hp
  have hB0 : Below w.heap.size w (w.alloc (.cells #[.slice none 0 0] 22)) := (Below.refl _ _).alloc (Nat.le_refl _) _
  go_enter Try.func20, Try.ntmps20
  go_wp2_with fail
  refine (tcheck_any ma mn mcap mb moff m _ (HH.out.1.grown hB0) hmn).mono ?_; rintro e w1 ⟨rfl, hb⟩; rw [hc]
  have k1 := blk_below (blk_new w (.cells #[.slice none 0 0] 22)) hb (by simp)
  have hB1 := below_after hB0 hb hB0.size
  clear hc hb
  go_wp2_with fail
  refine (valid_any a b off n cap l _ _ (HH.out.2.2.grown hB1) hn).mono ?_; rintro e w2 ⟨rfl, hb⟩; rw [ev]
  have k2 := blk_below k1 hb (Array.getElem?_eq_some_iff.1 k1).1
  have hB2 := below_after hB1 hb hB1.size
  clear hb k1 hB1 ev
  go_wp2_with fail
  refine (clone_any a b off n cap l _ (HH.out.2.2.grown hB2) (by omega) hnc).mono ?_; rintro e w3 ⟨⟨v, rfl, hO⟩, hb⟩
  have k3 := blk_below k2 hb (Array.getElem?_eq_some_iff.1 k2).1
  have hB3 := below_after hB2 hb hB2.size
  have hs2 := (Array.getElem?_eq_some_iff.1 k2).1
  rw [← mvK_zero m l] at hO
  have HO := Lib.hid (show _ ∧ _ ∧ _ from ⟨hO, k3, hB3⟩)
  have hvs : ∃ g c, v = .slice g n c := by
    obtain ⟨g, _, c, hv, _⟩ := hO.s
    rw [mvK_len, hl] at hv
    exact ⟨g, c, hv⟩
  clear hb k2 hB2 hO k3 hB3
  obtain ⟨g, cc, rfl⟩ := hvs
  go_wp2
  go_loopw [5, 23] (fun ee i wr => ∃ k : Nat, k ≤ n ∧ i = .int .i64 k ∧ ee = .int .i64 0 ∧ inPos m l k ∧ KsO wr w2.heap.size (.slice g n cc) (mvK m l k) ∧ wr.heap[w.heap.size]? = some (.cells #[.slice none 0 0] 22 (0, 0)) ∧ Below w.heap.size w wr) (fun _ i _ => n - (intOf i).toNat)
  case atStart => exact ⟨0, Nat.zero_le _, rfl, rfl, fun i hi => by omega, HO.out.1, HO.out.2.1, HO.out.2.2⟩
  case round =>
    obtain ⟨k, hk, rfl, rfl, hpk, hO, kx, hB⟩ := hrel
    clear HO
    by_cases hlt : k < n
    case neg =>
      obtain rfl : k = n := by omega
      exact absurd (by rw [hl]; exact hpk) HV.out.2.2
    obtain ⟨gg, c', hg, hgB⟩ := hO.inBlock (by rw [mvK_len, hl]) (by omega)
    simp only [Value.slice.injEq, true_and] at hg
    obtain ⟨rfl, rfl⟩ := hg
    obtain ⟨rfl, hbw⟩ := HH.out.2.2.2.1 (by omega)
    obtain ⟨c0, _, _, _, _⟩ := (HH.out.2.2.grown hB).2.2 k hlt
    have okk := (HV.out.2.1.2 k (by omega)).1
    have t0 := okk.1; have t1 := okk.2.1
    have i2 : (k : Int) < (n : Int) := by omega
    have uk : IntKind.i64.wrap ((k : Int) + 1) = (k : Int) + 1 := wrap_id (by omega)
    have eM : nthK (mvK m l k) k = nthK l k := by rw [mvK_nth (by omega), if_neg (by omega)]
    have hwx := (Array.getElem?_eq_some_iff.1 kx).1
    have HR := Lib.hid (show _ ∧ _ ∧ _ ∧ _ from ⟨hpk, hO, kx, hB⟩)
    clear hpk hO kx hB okk
    generalize ht : (nthK l k).1 = T at *
    have HT := Lib.hid ht
    clear ht
    have hln : (mvK m l k).length = n := by rw [mvK_len, hl]
    by_cases hs : smp m T ≤ 1099511627776
    · obtain ⟨s1, s2⟩ := s_ok HV.out.1 (tick := T) ⟨t0, t1⟩ hs
      have HS := Lib.hid (show _ ∧ _ ∧ _ from ⟨s1, s2, hs⟩)
      clear s1 s2 hs
      go_wp2_with (go_at_call 23; refine (tsample_any ma mb moff mn mcap m T _ (HH.out.1.grown HR.out.2.2.2) hmn (blk_has2 HH.out.2.1 HR.out.2.2.2)).mono ?_; rintro e w5 ⟨rfl, hb5⟩; rw [HS.out.1, HS.out.2.1]; have hO5 := HR.out.2.1.below hb5 (Nat.le_refl _); have c5 := (hO5.cellAt hln (k * 5) (by omega)).trans (encLK_get (mvK m l k) k (by omega)).1; have f5 := hO5.freeAt hln (k * 5); have HO5 := Lib.hid (show _ ∧ _ ∧ _ from ⟨hO5.stored1 hln k hlt (smp m T), blk_below HR.out.2.2.1 hb5 hwx, below_after HR.out.2.2.2 hb5 HR.out.2.2.2.size⟩); clear hO5 hb5)
      go_roundw
      case rel => exact ⟨k + 1, by omega, by go_num, rfl, fun i hi => by
        by_cases e : i = k
        · subst e; rw [HT.out]; exact HS.out.2.2
        · exact HR.out.1 i (by omega), by
          have h := HO5.out.1
          rw [eM, ← HT.out] at h
          rw [← HT.out, ← mvK_succ (by omega)]; exact h, (Below.heap_setCell _ _ _ _ (by show w.heap.size ≠ gg; omega)).trans HO5.out.2.1, HO5.out.2.2.setCell (p := ⟨gg, k * 5, none⟩) (by show w.heap.size ≤ gg; omega) _⟩
      case measure => simp [intOf] <;> omega
    · obtain ⟨s1, s2⟩ := s_big HV.out.1 (tick := T) ⟨t0, t1⟩ (by omega)
      have HS := Lib.hid (show _ ∧ _ from ⟨s1, s2⟩)
      clear s1 s2 hs
      have hgw : w.heap.size ≠ gg := by omega
      go_wp2_with (go_at_call 23; refine (tsample_any ma mb moff mn mcap m T _ (HH.out.1.grown HR.out.2.2.2) hmn (blk_has2 HH.out.2.1 HR.out.2.2.2)).mono ?_; rintro e w5 ⟨rfl, hb5⟩; rw [HS.out.1, HS.out.2]; have hO5 := HR.out.2.1.below hb5 (Nat.le_refl _); have c5 := (hO5.cellAt hln (k * 5) (by omega)).trans (encLK_get (mvK m l k) k (by omega)).1; have f5 := hO5.freeAt hln (k * 5); have kx5 := blk_below HR.out.2.2.1 hb5 hwx; have x5 := blk_cell kx5 0; have y5 := blk_free kx5 0; simp at x5 y5; have HO5 := Lib.hid (show _ ∧ _ from ⟨kx5, below_after HR.out.2.2.2 hb5 HR.out.2.2.2.size⟩); clear hO5 hb5 kx5)
      have tp := blk_cell (cells_setK (i := 0) (v := .slice none 0 0) ((Below.heap_setCell w5 ⟨gg, k * 5, none⟩ (.int .i64 0) _ hgw).trans HO5.out.1)) 0
      simp at tp
      exact bodyPost_ret (v := .tuple #[.slice none 0 0, .int .i64 70]) (by simp [results, Try.results20, go_sem, tp]) rfl ⟨.inl ⟨by decide, rfl⟩, (HO5.out.2.setCell (p := ⟨gg, k * 5, none⟩) (by show w.heap.size ≤ gg; omega) _).setCell (p := ⟨w.heap.size, 0, none⟩) (Nat.le_refl _) _⟩
end Go.Proofs.Ytafffmcmdhbghaa
