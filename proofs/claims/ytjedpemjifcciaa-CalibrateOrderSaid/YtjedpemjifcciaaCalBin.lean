/- The search for the place of a record (layer 42). -/
import Derived.Test.YtjedpemjifcciaaCalChk
namespace Go.Proofs.Ytjedpemjifcciaa
open Go.ChangeShapes Go.WideShapes Go.ChangeAt Go.RowKit Go.Sort

abbrev vF (f : FuncId) : Value := .func (.func f) #[] #[]
set_option maxRecDepth 100000 in
set_option maxHeartbeats 1000000 in
theorem clos_any (x : Rt) (k : K3) (p q : Nat) (w : World) (hp : w.heap[p]? = some (.cells #[vF 23] 51 (0, 0))) (hq : w.heap[q]? = some (.cells #[vF 22] 50 (0, 0))) :
    Calls Try.prog 33 #[vR x, vK k, .pointer (some ⟨p, 0, none⟩), .pointer (some ⟨q, 0, none⟩)] w fun e w' => e = .returned (.int .i64 (cmp3 (ky x) k)) ∧ Below w.heap.size w w' := by
  obtain ⟨a, b, c, d, e⟩ := x
  obtain ⟨k0, k1, k2⟩ := k
  dsimp only [vR, vK]
  obtain ⟨W, hW⟩ : ∃ W, W = (w.alloc (.cells #[.int .i64 a, .int .i64 b, .int .i64 c, .int .i64 d, .int .i64 e] 24)).alloc (.cells #[.int .i64 k0, .int .i64 k1, .int .i64 k2] 49) := ⟨_, rfl⟩
  have hB : Below w.heap.size w W := by rw [hW]; go_grown
  have g1 : W.heap[w.heap.size]? = some (.cells #[.int .i64 a, .int .i64 b, .int .i64 c, .int .i64 d, .int .i64 e] 24 (0, 0)) := by rw [hW]; exact blk_alloc (blk_new _ _) _
  have g2 : W.heap[w.heap.size + 1]? = some (.cells #[.int .i64 k0, .int .i64 k1, .int .i64 k2] 49 (0, 0)) := by
    rw [hW]
    have := blk_new (w.alloc (.cells #[.int .i64 a, .int .i64 b, .int .i64 c, .int .i64 d, .int .i64 e] 24)) (.cells #[.int .i64 k0, .int .i64 k1, .int .i64 k2] 49)
    rwa [World.size_alloc] at this
  have d0 := cell_regrown (blk_cell g1 0); have d1 := cell_regrown (blk_cell g1 1); have d2 := cell_regrown (blk_cell g1 2); have d3 := cell_regrown (blk_cell g1 3); have d4 := cell_regrown (blk_cell g1 4)
  have e0 := cell_regrown (blk_cell g2 0); have e1 := cell_regrown (blk_cell g2 1); have e2 := cell_regrown (blk_cell g2 2)
  have p0 := cell_regrown (blk_cell (blk_below hp hB (Array.getElem?_eq_some_iff.1 hp).1) 0)
  have q0 := cell_regrown (blk_cell (blk_below hq hB (Array.getElem?_eq_some_iff.1 hq).1) 0)
  simp at d0 d1 d2 d3 d4 e0 e1 e2 p0 q0
  have HB := Lib.hid hB
  clear hB g1 g2 hp hq
  go_enter Try.func33, Try.ntmps33
  go_wp2
  rw [← hW]
  clear hW
  refine wp_region_quiet_below (by kernel_rfl) (by kernel_rfl) ?_
  repeat (go_big_quiet_step (((first | (go_at_call 22; with_reducible exact Calls.regrown_of (keyOf_any (a, b, c, d, e) _)) | (go_at_call 23; with_reducible exact Calls.regrown_of (compare_any (ky (a, b, c, d, e)) (k0, k1, k2) _))))))
  refine wpQuiet_nil ?_
  intro WQ hq'
  have hq := of_regrown hq'
  clear hq'
  go_wp2
  go_ret
  exact ⟨rfl, below_after HB.out hq HB.out.size⟩

/-- Where a key goes: behind at elements. -/
def Pos (l : List Rt) (k : K3) (at' : Nat) : Prop := at' ≤ l.length ∧ (∀ t, t < at' → ltK (ky (nthR l t)) k) ∧ ∀ t, at' ≤ t → t < l.length → ¬ ltK (ky (nthR l t)) k
theorem pos_one {l : List Rt} {k : K3} {a b : Nat} (h : Pos l k a) (h' : Pos l k b) : a = b := by
  rcases Nat.lt_trichotomy a b with c | c | c
  · exact absurd (h'.2.1 a c) (h.2.2 a (Nat.le_refl _) (by have := h'.1; omega))
  · exact c
  · exact absurd (h.2.1 b c) (h'.2.2 b (Nat.le_refl _) (by have := h.1; omega))
noncomputable def hasK (l : List Rt) (k : K3) (at' : Nat) : Bool := by classical exact decide (at' < l.length ∧ ky (nthR l at') = k)
def BinP (l : List Rt) (k : K3) (w : World) (e : Ending) (w' : World) : Prop := ∃ at' : Nat, Pos l k at' ∧ e = .returned (.tuple #[.int .i64 at', .bool (hasK l k at')]) ∧ Below w.heap.size w w'
theorem ltK_trans {a b c : K3} (h : ltK a b) (h' : ltK b c) : ltK a c := by unfold ltK at *; omega
theorem ltK_irr {a : K3} : ¬ ltK a a := by unfold ltK; omega
theorem ltK_tri (a b : K3) : ltK a b ∨ a = b ∨ ltK b a := by
  obtain ⟨x, y, z⟩ := a; obtain ⟨x', y', z'⟩ := b
  unfold ltK; simp only [Prod.mk.injEq]; omega
theorem recs_lt {l : List Rt} (h : okTo l l.length) {i j : Nat} (hij : i < j) (hj : j < l.length) : ltK (ky (nthR l i)) (ky (nthR l j)) := by
  induction j with
  | zero => omega
  | succ j ih =>
    have h1 := (h (j + 1) hj).2 (by omega)
    rw [Nat.add_sub_cancel] at h1
    by_cases e : i = j
    · subst e; exact h1
    · exact ltK_trans (ih (by omega) (by omega)) h1

set_option maxRecDepth 100000 in
set_option maxHeartbeats 4000000 in
theorem bin_any (a : Option Addr) (n cap b off : Nat) (l : List Rt) (k : K3) (p q : Nat) (w : World) (h : Rs w a n b off l) (hn : n ≤ 256) (hok : okTo l l.length) (hp : w.heap[p]? = some (.cells #[vF 23] 51 (0, 0))) (hq : w.heap[q]? = some (.cells #[vF 22] 50 (0, 0))) :
    Calls Try.prog 32 #[.slice a n cap, vK k, .func (.func 33) #[] #[.pointer (some ⟨p, 0, none⟩), .pointer (some ⟨q, 0, none⟩)]] w (BinP l k w) := by
  have HM := Lib.hid (show _ ∧ _ ∧ _ ∧ _ from ⟨h, hok, hp, hq⟩)
  clear h hok hp hq
  obtain ⟨k0, k1, k2⟩ := k
  dsimp only [vK]
  go_enter Try.func32, Try.ntmps32
  go_wp2
  go_loopw [9, 10] (fun i j wr => ∃ I J : Nat, I ≤ J ∧ J ≤ n ∧ i = .int .i64 I ∧ j = .int .i64 J ∧ (∀ t, t < I → ltK (ky (nthR l t)) (k0, k1, k2)) ∧ (∀ t, J ≤ t → t < n → ¬ ltK (ky (nthR l t)) (k0, k1, k2)) ∧ wr.heap[w.heap.size]? = some (.cells #[.int .i64 k0, .int .i64 k1, .int .i64 k2] 49 (0, 0)) ∧ Below w.heap.size w wr) (fun i j _ => (intOf j).toNat - (intOf i).toNat)
  case atStart => exact ⟨0, n, Nat.zero_le _, Nat.le_refl _, rfl, rfl, fun t ht => by omega, fun t ht ht' => by omega, blk_new _ _, by go_grown⟩
  case round =>
    obtain ⟨I, J, hIJ, hJn, rfl, rfl, hlo, hhi, hbx, hb⟩ := hrel
    have HK := Lib.hid (show _ ∧ _ ∧ _ ∧ _ from ⟨hlo, hhi, hbx, hb⟩); clear hlo hhi
    have e0 := cell_regrown (blk_cell hbx 0); have e1 := cell_regrown (blk_cell hbx 1); have e2 := cell_regrown (blk_cell hbx 2)
    simp at e0 e1 e2
    clear hbx hb
    have hpw := blk_below HM.out.2.2.1 HK.out.2.2.2 (Array.getElem?_eq_some_iff.1 HM.out.2.2.1).1
    have hqw := blk_below HM.out.2.2.2 HK.out.2.2.2 (Array.getElem?_eq_some_iff.1 HM.out.2.2.2).1
    have hpl := (Array.getElem?_eq_some_iff.1 hpw).1
    have hql := (Array.getElem?_eq_some_iff.1 hqw).1
    have hb0 := HK.out.2.2.2.size
    have HL : Hid (l.length = n) := Lib.hid HM.out.1.1
    by_cases hlt : I < J
    · obtain ⟨M, hM1, hM2, hM3⟩ : ∃ M : Nat, I ≤ M ∧ M < J ∧ ((I : Int) + (J : Int)) / 2 = (M : Int) := ⟨(I + J) / 2, by omega, by omega, by omega⟩
      obtain ⟨rfl, hbw⟩ := HM.out.1.2.1 (by omega)
      obtain ⟨c0, c1, c2, c3, c4⟩ := (HM.out.1.grown HK.out.2.2.2).2.2 M (by omega)
      have hlo2 := fun (h : ltK (ky (nthR l M)) (k0, k1, k2)) t (ht : t < M + 1) => show ltK (ky (nthR l t)) (k0, k1, k2) from by
        by_cases e : t = M
        · subst e; exact h
        · exact ltK_trans (recs_lt HM.out.2.1 (by omega) (by rw [HL.out]; omega)) h
      have hhi2 := fun (h : ¬ ltK (ky (nthR l M)) (k0, k1, k2)) t (ht : M ≤ t) (ht2 : t < n) => show ¬ ltK (ky (nthR l t)) (k0, k1, k2) from fun g => by
        by_cases e : t = M
        · subst e; exact h g
        · exact h (ltK_trans (recs_lt HM.out.2.1 (by omega) (by rw [HL.out]; omega)) g)
      generalize hx : nthR l M = x at *
      obtain ⟨x0, x1, x2, x3, x4⟩ := x
      have HX := Lib.hid (show _ ∧ _ from ⟨hlo2, hhi2⟩); clear hx hlo2 hhi2
      dsimp only at c0 c1 c2 c3 c4
      replace c0 := cell_regrown c0; replace c1 := cell_regrown c1; replace c2 := cell_regrown c2; replace c3 := cell_regrown c3; replace c4 := cell_regrown c4
      have u1 : IntKind.i64.wrap ((I : Int) + (J : Int)) = (I : Int) + (J : Int) := by rw [IntKind.wrap_i64]; omega
      by_cases hq0 : ltK (ky (x0, x1, x2, x3, x4)) (k0, k1, k2)
      · have z : decide (cmp3 (ky (x0, x1, x2, x3, x4)) (k0, k1, k2) < 0) = true := decide_eq_true (cmp3_lt.2 hq0)
        go_wp2
        refine wp_region_quiet_below (by kernel_rfl) (by kernel_rfl) ?_
        repeat (go_big_quiet_step (((go_at_call 33; with_reducible exact Calls.regrown_of (clos_any (x0, x1, x2, x3, x4) (k0, k1, k2) p q _ (blk_below hpw (below_regrown wr _ _) hpl) (blk_below hqw (below_regrown wr _ _) hql))))))
        refine wpQuiet_nil ?_
        intro WQ hq'
        have hq := of_regrown hq'
        clear hq'
        go_wp2
        go_roundw
        case rel => exact ⟨M + 1, J, by omega, hJn, by go_num, rfl, HX.out.1 hq0, HK.out.2.1, blk_below HK.out.2.2.1 hq (Array.getElem?_eq_some_iff.1 HK.out.2.2.1).1, below_after HK.out.2.2.2 hq hb0⟩
        case measure => simp [intOf]; omega
      · have z : decide (cmp3 (ky (x0, x1, x2, x3, x4)) (k0, k1, k2) < 0) = false := decide_eq_false fun h => hq0 (cmp3_lt.1 h)
        go_wp2
        refine wp_region_quiet_below (by kernel_rfl) (by kernel_rfl) ?_
        repeat (go_big_quiet_step (((go_at_call 33; with_reducible exact Calls.regrown_of (clos_any (x0, x1, x2, x3, x4) (k0, k1, k2) p q _ (blk_below hpw (below_regrown wr _ _) hpl) (blk_below hqw (below_regrown wr _ _) hql))))))
        refine wpQuiet_nil ?_
        intro WQ hq'
        have hq := of_regrown hq'
        clear hq'
        go_wp2
        go_roundw
        case rel => exact ⟨I, M, by omega, by omega, rfl, by go_num, HK.out.1, HX.out.2 hq0, blk_below HK.out.2.2.1 hq (Array.getElem?_eq_some_iff.1 HK.out.2.2.1).1, below_after HK.out.2.2.2 hq hb0⟩
        case measure => simp [intOf]; omega
    obtain rfl : I = J := by omega
    have HP := Lib.hid (show Pos l (k0, k1, k2) I from ⟨by rw [HL.out]; exact hJn, HK.out.1, fun t h1 h2 => HK.out.2.1 t h1 (by rw [← HL.out]; exact h2)⟩)
    by_cases hin : I < n
    · obtain ⟨rfl, hbw⟩ := HM.out.1.2.1 (by omega)
      obtain ⟨c0, c1, c2, c3, c4⟩ := (HM.out.1.grown HK.out.2.2.2).2.2 I (by omega)
      have hh : ∀ r, (r = true ↔ ky (nthR l I) = (k0, k1, k2)) → hasK l (k0, k1, k2) I = r := fun r h => by
        unfold hasK
        rw [Bool.eq_iff_iff, h, decide_eq_true_iff, HL.out]
        exact ⟨fun g => g.2, fun g => ⟨hin, g⟩⟩
      generalize hx : nthR l I = x at *
      obtain ⟨x0, x1, x2, x3, x4⟩ := x
      have HX := Lib.hid hh; clear hx hh
      dsimp only at c0 c1 c2 c3 c4
      replace c0 := cell_regrown c0; replace c1 := cell_regrown c1; replace c2 := cell_regrown c2; replace c3 := cell_regrown c3; replace c4 := cell_regrown c4
      have hin' : (I : Int) < (n : Int) := by omega
      by_cases hq0 : ky (x0, x1, x2, x3, x4) = (k0, k1, k2)
      · have z : (cmp3 (ky (x0, x1, x2, x3, x4)) (k0, k1, k2) == 0) = true := by rw [cmp3_eq.2 hq0]; rfl
        have z2 : decide (cmp3 (ky (x0, x1, x2, x3, x4)) (k0, k1, k2) = 0) = true := decide_eq_true (cmp3_eq.2 hq0)
        have E := Lib.hid (HX.out true ⟨fun _ => hq0, fun _ => rfl⟩)
        clear hq0
        go_wp2
        refine wp_region_quiet_below (by kernel_rfl) (by kernel_rfl) ?_
        repeat (go_big_quiet_step (((go_at_call 33; with_reducible exact Calls.regrown_of (clos_any (x0, x1, x2, x3, x4) (k0, k1, k2) p q _ (blk_below hpw (below_regrown wr _ _) hpl) (blk_below hqw (below_regrown wr _ _) hql))))))
        refine wpQuiet_nil ?_
        intro WQ hq'
        have hq := of_regrown hq'
        clear hq'
        go_wp2
        exact bodyPost_ret (v := .tuple #[.int .i64 I, .bool true]) (by simp [results, Try.results32, go_sem]) rfl ⟨I, HP.out, by rw [E.out], below_after HK.out.2.2.2 hq hb0⟩
      · have hne := fun h => hq0 (cmp3_eq.1 h)
        have z : (cmp3 (ky (x0, x1, x2, x3, x4)) (k0, k1, k2) == 0) = false := by simpa using hne
        have z2 : decide (cmp3 (ky (x0, x1, x2, x3, x4)) (k0, k1, k2) = 0) = false := decide_eq_false hne
        have E := Lib.hid (HX.out false ⟨(fun h => by cases h), fun h => absurd h hq0⟩)
        clear hq0 hne
        go_wp2
        refine wp_region_quiet_below (by kernel_rfl) (by kernel_rfl) ?_
        repeat (go_big_quiet_step (((go_at_call 33; with_reducible exact Calls.regrown_of (clos_any (x0, x1, x2, x3, x4) (k0, k1, k2) p q _ (blk_below hpw (below_regrown wr _ _) hpl) (blk_below hqw (below_regrown wr _ _) hql))))))
        refine wpQuiet_nil ?_
        intro WQ hq'
        have hq := of_regrown hq'
        clear hq'
        go_wp2
        exact bodyPost_ret (v := .tuple #[.int .i64 I, .bool false]) (by simp [results, Try.results32, go_sem]) rfl ⟨I, HP.out, by rw [E.out], below_after HK.out.2.2.2 hq hb0⟩
    · have hin' : ¬ (I : Int) < (n : Int) := by omega
      have E := Lib.hid (show hasK l (k0, k1, k2) I = false from by unfold hasK; rw [decide_eq_false_iff_not, HL.out]; omega)
      go_wp2
      refine wp_region_quiet_below (by kernel_rfl) (by kernel_rfl) ?_
      repeat (go_big_quiet_step ((fail)))
      refine wpQuiet_nil ?_
      intro WQ hq'
      have hq := of_regrown hq'
      clear hq'
      go_wp2
      exact bodyPost_ret (v := .tuple #[.int .i64 I, .bool false]) (by simp [results, Try.results32, go_sem]) rfl ⟨I, HP.out, by rw [E.out], below_after HK.out.2.2.2 hq hb0⟩
end Go.Proofs.Ytjedpemjifcciaa
