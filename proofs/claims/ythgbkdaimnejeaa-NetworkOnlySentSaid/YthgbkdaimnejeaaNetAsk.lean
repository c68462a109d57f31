/- find and asked, IsCut, Few, New (layer 6). -/
import Derived.Test.YthgbkdaimnejeaaNetRChk
namespace Go.Proofs.Ythgbkdaimnejeaa
open Go.ChangeShapes Go.WideShapes Go.ChangeAt Go.RowKit Go.Sort Go.Shelf

noncomputable def askC (Q : List Kt) (A : List Qt) (i : Int) : Int := by classical exact if NetOk Q A then (if 0 ≤ i ∧ i < (Q.length : Int) then 0 else 1) else 60
theorem askC_no {Q : List Kt} {A : List Qt} {i : Int} (h : ¬ NetOk Q A) : askC Q A i = 60 := if_neg h
theorem askC_arg {Q : List Kt} {A : List Qt} {i : Int} (h : NetOk Q A) (h2 : ¬ (0 ≤ i ∧ i < (Q.length : Int))) : askC Q A i = 1 := by unfold askC; rw [if_pos h, if_neg h2]
theorem askC_ok {Q : List Kt} {A : List Qt} {i : Int} (h : NetOk Q A) (h2 : 0 ≤ i ∧ i < (Q.length : Int)) : askC Q A i = 0 := by unfold askC; rw [if_pos h, if_pos h2]
set_option maxHeartbeats 4000000 in
theorem find_any (qa : Option Addr) (qn qc qb qo : Nat) (Q : List Kt) (pa : Option Addr) (pn pc pb po : Nat) (A : List Qt) (i : Int) (w : World) (hQ : Ks w qa qn qb qo Q) (hA : Qs w pa pn pb po A) (hqn : qn ≤ 9223372036854775807) (hpn : pn ≤ 9223372036854775807) :
    Calls Try.prog 37 #[.agg #[.slice qa qn qc, .slice pa pn pc], .int .i64 i] w fun e w' => e = .returned (.int .i64 (askC Q A i)) ∧ Below w.heap.size w w' := by
  have HM := Lib.hid (show _ ∧ _ ∧ _ ∧ _ from ⟨hQ, hA, hQ.1, hA.1⟩)
  clear hQ hA
  obtain ⟨W, hW⟩ : ∃ W, W = w.alloc (.cells #[.slice qa qn qc, .slice pa pn pc] 25) := ⟨_, rfl⟩
  have hB : Below w.heap.size w W := by rw [hW]; go_grown
  have g1 : W.heap[w.heap.size]? = some (.cells #[.slice qa qn qc, .slice pa pn pc] 25 (0, 0)) := by rw [hW]; exact blk_new _ _
  have d0 := blk_cell g1 0; have d1 := blk_cell g1 1
  simp at d0 d1
  have H := Lib.hid (show _ ∧ _ from ⟨hB, g1⟩)
  clear hB g1
  go_enter Try.func37, Try.ntmps37
  go_upto_region 1 with fail
  rw [← hW]
  clear hW
  go_wp2_with fail
  clear d0 d1
  refine (check_any qa qn qc qb qo Q pa pn pc pb po A W (HM.out.1.grown H.out.1) (HM.out.2.1.grown H.out.1) hqn hpn).mono ?_
  rintro e W1 ⟨rfl, hb⟩
  have H1 := Lib.hid (show _ ∧ _ from ⟨below_after H.out.1 hb H.out.1.size, blk_below H.out.2 hb (Array.getElem?_eq_some_iff.1 H.out.2).1⟩)
  clear hb
  have d0 := blk_cell H1.out.2 0; have d1 := blk_cell H1.out.2 1
  simp at d0 d1
  by_cases hN : NetOk Q A
  case neg =>
    have HN := Lib.hid (askC_no (i := i) hN)
    rw [chkN_no hN]
    clear hN
    go_wp2
    exact bodyPost_ret (v := .int .i64 60) (by simp [results, Try.results37, go_sem]) rfl ⟨by rw [HN.out], H1.out.1⟩
  rw [chkN_yes hN]
  by_cases h1 : i < 0
  · have z : decide (i < 0) = true := decide_eq_true h1
    have HN := Lib.hid (askC_arg (i := i) hN (fun g => by omega))
    clear hN
    go_wp2
    exact bodyPost_ret (v := .int .i64 1) (by simp [results, Try.results37, go_sem]) rfl ⟨by rw [HN.out], H1.out.1⟩
  have z : decide (i < 0) = false := decide_eq_false h1
  by_cases h2 : (qn : Int) ≤ i
  · have z2 : decide ((qn : Int) ≤ i) = true := decide_eq_true h2
    have HN := Lib.hid (askC_arg (i := i) hN (fun g => by rw [HM.out.2.2.1] at g; omega))
    clear hN
    go_wp2
    exact bodyPost_ret (v := .int .i64 1) (by simp [results, Try.results37, go_sem]) rfl ⟨by rw [HN.out], H1.out.1⟩
  have z2 : decide ((qn : Int) ≤ i) = false := decide_eq_false h2
  have HN := Lib.hid (askC_ok (i := i) hN (by rw [HM.out.2.2.1]; omega))
  clear hN
  go_wp2
  exact bodyPost_ret (v := .int .i64 0) (by simp [results, Try.results37, go_sem]) rfl ⟨by rw [HN.out], H1.out.1⟩
set_option maxHeartbeats 4000000 in
theorem asked_any (qa : Option Addr) (qn qc qb qo : Nat) (Q : List Kt) (pa : Option Addr) (pn pc pb po : Nat) (A : List Qt) (i : Int) (w : World) (hQ : Ks w qa qn qb qo Q) (hA : Qs w pa pn pb po A) (hqn : qn ≤ 9223372036854775807) (hpn : pn ≤ 9223372036854775807) :
    Calls Try.prog 40 #[.agg #[.slice qa qn qc, .slice pa pn pc], .int .i64 i] w fun e w' => e = .returned (.int .i64 (askC Q A i)) ∧ Below w.heap.size w w' := by
  have HM := Lib.hid (show _ ∧ _ ∧ _ ∧ _ from ⟨hQ, hA, hQ.1, hA.1⟩)
  clear hQ hA
  obtain ⟨W, hW⟩ : ∃ W, W = w.alloc (.cells #[.slice qa qn qc, .slice pa pn pc] 25) := ⟨_, rfl⟩
  have hB : Below w.heap.size w W := by rw [hW]; go_grown
  have g1 : W.heap[w.heap.size]? = some (.cells #[.slice qa qn qc, .slice pa pn pc] 25 (0, 0)) := by rw [hW]; exact blk_new _ _
  have d0 := blk_cell g1 0; have d1 := blk_cell g1 1
  simp at d0 d1
  have H := Lib.hid (show _ ∧ _ from ⟨hB, g1⟩)
  clear hB g1
  go_enter Try.func40, Try.ntmps40
  go_upto_region 1 with fail
  rw [← hW]
  clear hW
  go_wp2_with fail
  clear d0 d1
  refine (rcheck_any qa qn qc qb qo Q pa pn pc pb po A W (HM.out.1.grown H.out.1) (HM.out.2.1.grown H.out.1) hqn hpn).mono ?_
  rintro e W1 ⟨rfl, hb⟩
  have H1 := Lib.hid (show _ ∧ _ from ⟨below_after H.out.1 hb H.out.1.size, blk_below H.out.2 hb (Array.getElem?_eq_some_iff.1 H.out.2).1⟩)
  clear hb
  have d0 := blk_cell H1.out.2 0; have d1 := blk_cell H1.out.2 1
  simp at d0 d1
  by_cases hN : NetOk Q A
  case neg =>
    have HN := Lib.hid (askC_no (i := i) hN)
    rw [chkN_no hN]
    clear hN
    go_wp2
    exact bodyPost_ret (v := .int .i64 60) (by simp [results, Try.results40, go_sem]) rfl ⟨by rw [HN.out], H1.out.1⟩
  rw [chkN_yes hN]
  by_cases h1 : i < 0
  · have z : decide (i < 0) = true := decide_eq_true h1
    have HN := Lib.hid (askC_arg (i := i) hN (fun g => by omega))
    clear hN
    go_wp2
    exact bodyPost_ret (v := .int .i64 1) (by simp [results, Try.results40, go_sem]) rfl ⟨by rw [HN.out], H1.out.1⟩
  have z : decide (i < 0) = false := decide_eq_false h1
  by_cases h2 : (qn : Int) ≤ i
  · have z2 : decide ((qn : Int) ≤ i) = true := decide_eq_true h2
    have HN := Lib.hid (askC_arg (i := i) hN (fun g => by rw [HM.out.2.2.1] at g; omega))
    clear hN
    go_wp2
    exact bodyPost_ret (v := .int .i64 1) (by simp [results, Try.results40, go_sem]) rfl ⟨by rw [HN.out], H1.out.1⟩
  have z2 : decide ((qn : Int) ≤ i) = false := decide_eq_false h2
  have HN := Lib.hid (askC_ok (i := i) hN (by rw [HM.out.2.2.1]; omega))
  clear hN
  go_wp2
  exact bodyPost_ret (v := .int .i64 0) (by simp [results, Try.results40, go_sem]) rfl ⟨by rw [HN.out], H1.out.1⟩
theorem rprQ (a b : Int) : prQ a b = (if a ≤ b then (a, b) else (b, a)) := by
  unfold prQ
  split
  · rw [Int.min_eq_left (by omega), Int.max_eq_right (by omega)]
  · rw [Int.min_eq_right (by omega), Int.max_eq_left (by omega)]
def CutTo (A : List Qt) (q : Qt) (n : Nat) : Prop := ∃ i, i < n ∧ nthQ A i = q
theorem nthQ_mem {A : List Qt} {i : Nat} (h : i < A.length) : nthQ A i ∈ A := by
  unfold nthQ
  rw [List.getD_eq_getElem?_getD, List.getElem?_eq_getElem h]
  exact List.getElem_mem h
theorem cutTo_mem {A : List Qt} {q : Qt} : CutTo A q A.length ↔ q ∈ A := by
  constructor
  · rintro ⟨i, h, rfl⟩; exact nthQ_mem h
  · intro h
    obtain ⟨i, hi, rfl⟩ := List.mem_iff_getElem.1 h
    exact ⟨i, hi, by unfold nthQ; rw [List.getD_eq_getElem?_getD, List.getElem?_eq_getElem hi]; rfl⟩
set_option maxHeartbeats 8000000 in
theorem isCut_any (qa : Option Addr) (qn qc qb qo : Nat) (Q : List Kt) (pa : Option Addr) (pn pc pb po : Nat) (A : List Qt) (a b : Int) (w : World) (hQ : Ks w qa qn qb qo Q) (hA : Qs w pa pn pb po A) (hpn : pn ≤ 9223372036854775807) :
    Calls Try.prog 36 #[.agg #[.slice qa qn qc, .slice pa pn pc], .int .i64 a, .int .i64 b] w fun e w' => e = .returned (.bool (decide (prQ a b ∈ A))) ∧ Below w.heap.size w w' := by
  have HM := Lib.hid (show _ ∧ _ ∧ _ ∧ _ from ⟨hQ, hA, hQ.1, hA.1⟩)
  clear hQ hA
  obtain ⟨W, hW⟩ : ∃ W, W = w.alloc (.cells #[.slice qa qn qc, .slice pa pn pc] 25) := ⟨_, rfl⟩
  have hB : Below w.heap.size w W := by rw [hW]; go_grown
  have g1 : W.heap[w.heap.size]? = some (.cells #[.slice qa qn qc, .slice pa pn pc] 25 (0, 0)) := by rw [hW]; exact blk_new _ _
  have d0 := blk_cell g1 0; have d1 := blk_cell g1 1
  simp at d0 d1
  have H := Lib.hid (show _ ∧ _ from ⟨hB, g1⟩)
  clear hB g1
  go_enter Try.func36, Try.ntmps36
  go_upto_region 1 with fail
  rw [← hW]
  clear hW
  clear d0 d1
  obtain ⟨mn, hmn⟩ : ∃ x, x = (prQ a b).1 := ⟨_, rfl⟩
  obtain ⟨mx, hmx⟩ : ∃ x, x = (prQ a b).2 := ⟨_, rfl⟩
  have HP := Lib.hid (show prQ a b = (mn, mx) from by rw [hmn, hmx])
  have hor : (a < b ∧ mn = a ∧ mx = b) ∨ (b < a ∧ mn = b ∧ mx = a) ∨ (a = b ∧ mn = a ∧ mx = a) := by
    rw [rprQ] at hmn hmx
    rcases Int.lt_trichotomy a b with h | h | h
    · rw [if_pos (by omega)] at hmn hmx; exact .inl ⟨h, hmn, hmx⟩
    · subst h
      rw [if_pos (by omega)] at hmn hmx; exact .inr (.inr ⟨rfl, hmn, hmx⟩)
    · rw [if_neg (by omega)] at hmn hmx; exact .inr (.inl ⟨h, hmn, hmx⟩)
  clear hmn hmx
  go_wp2
  go_loopw [7] (fun i wr => ∃ k : Nat, k ≤ pn ∧ i = .int .i64 k ∧ ¬ CutTo A (prQ a b) k ∧ wr.heap[w.heap.size]? = some (.cells #[.slice qa qn qc, .slice pa pn pc] 25 (0, 0)) ∧ Below w.heap.size w wr) (fun i _ => pn - (intOf i).toNat)
  case atStart => exact ⟨0, Nat.zero_le _, rfl, fun ⟨i, h, _⟩ => by omega, H.out.2, H.out.1⟩
  case round =>
    clear H
    obtain ⟨k, hk, rfl, hno, hbx, hb⟩ := hrel
    have d0 := blk_cell hbx 0; have d1 := blk_cell hbx 1
    simp at d0 d1
    by_cases hlt : k < pn
    case neg =>
      obtain rfl : k = pn := by omega
      have hkk : decide ((k : Int) < k) = false := by simp
      have HN := Lib.hid (show _ ∧ _ from ⟨show decide (prQ a b ∈ A) = false from decide_eq_false fun g => hno (by rw [← HM.out.2.2.2]; exact cutTo_mem.2 g), hb⟩)
      clear hno hbx hb hor
      go_wp2
      exact bodyPost_ret (v := .bool false) (by simp [results, Try.results36, go_sem]) rfl ⟨by rw [HN.out.1], HN.out.2⟩
    obtain ⟨rfl, hbw⟩ := HM.out.2.1.2.1 (by omega)
    obtain ⟨c0, c1⟩ := (HM.out.2.1.grown hb).2.2 k hlt
    have hy := fun (h : nthQ A k = prQ a b) => show decide (prQ a b ∈ A) = true from decide_eq_true (cutTo_mem.1 ⟨k, by rw [HM.out.2.2.2]; exact hlt, h⟩)
    have hn2 := fun (h : nthQ A k ≠ prQ a b) => show ¬ CutTo A (prQ a b) (k + 1) from fun ⟨i, h1, h2⟩ => by
      by_cases e : i = k
      · subst e; exact h h2
      · exact hno ⟨i, by omega, h2⟩
    rw [HP.out] at hy hn2
    generalize nthQ A k = x at *
    obtain ⟨x0, x1⟩ := x
    dsimp only at c0 c1
    have HX := Lib.hid (show _ ∧ _ ∧ _ ∧ _ from ⟨hy, hn2, hbx, hb⟩)
    clear hy hn2 hno hbx hb
    have hltI : (k : Int) < pn := by omega
    by_cases q0 : x0 = mn
    case neg =>
      have z0 : (x0 == mn) = false := by simpa using q0
      have HN := Lib.hid (HX.out.2.1 fun e => q0 (by cases e; rfl))
      rcases hor with ⟨ho, rfl, rfl⟩ | ⟨ho, rfl, rfl⟩ | ⟨rfl, rfl, rfl⟩
      all_goals
        clear q0
        go_wp2
        all_goals (first | (exfalso; omega) | skip)
        all_goals
          go_roundw
          case rel => exact ⟨k + 1, by omega, by go_num, by rw [HP.out]; exact HN.out, HX.out.2.2⟩
          case measure => simp [intOf] <;> omega
    have z0 : (x0 == mn) = true := by simpa using q0
    by_cases q1 : x1 = mx
    case neg =>
      have z1 : (x1 == mx) = false := by simpa using q1
      have HN := Lib.hid (HX.out.2.1 fun e => q1 (by cases e; rfl))
      rcases hor with ⟨ho, rfl, rfl⟩ | ⟨ho, rfl, rfl⟩ | ⟨rfl, rfl, rfl⟩
      all_goals
        clear q0 q1
        go_wp2
        all_goals (first | (exfalso; omega) | skip)
        all_goals
          go_roundw
          case rel => exact ⟨k + 1, by omega, by go_num, by rw [HP.out]; exact HN.out, HX.out.2.2⟩
          case measure => simp [intOf] <;> omega
    have z1 : (x1 == mx) = true := by simpa using q1
    have HN := Lib.hid (HX.out.1 (by rw [q0, q1]))
    rcases hor with ⟨ho, rfl, rfl⟩ | ⟨ho, rfl, rfl⟩ | ⟨rfl, rfl, rfl⟩
    all_goals
      clear q0 q1
      go_wp2
      all_goals (first | (exfalso; omega) | skip)
      all_goals exact bodyPost_ret (v := .bool true) (by simp [results, Try.results36, go_sem]) rfl ⟨by rw [HP.out, HN.out], HX.out.2.2.2⟩
def few (Q : List Kt) (A : List Qt) : Prop := Q.length ≤ 40 ∧ A.length ≤ 40
instance (Q : List Kt) (A : List Qt) : Decidable (few Q A) := by unfold few; infer_instance
theorem few_any (qa : Option Addr) (qn qc qb qo : Nat) (Q : List Kt) (pa : Option Addr) (pn pc pb po : Nat) (A : List Qt) (w : World) (hQ : Ks w qa qn qb qo Q) (hA : Qs w pa pn pb po A) (hqn : qn ≤ 9223372036854775807) (hpn : pn ≤ 9223372036854775807) :
    Calls Try.prog 10 #[.agg #[.slice qa qn qc, .slice pa pn pc]] w fun e w' => e = .returned (.bool (decide (few Q A))) ∧ Below w.heap.size w w' := by
  have HM := Lib.hid (show _ ∧ _ ∧ _ ∧ _ from ⟨hQ, hA, hQ.1, hA.1⟩)
  clear hQ hA
  obtain ⟨W, hW⟩ : ∃ W, W = w.alloc (.cells #[.slice qa qn qc, .slice pa pn pc] 25) := ⟨_, rfl⟩
  have hB : Below w.heap.size w W := by rw [hW]; go_grown
  have g1 : W.heap[w.heap.size]? = some (.cells #[.slice qa qn qc, .slice pa pn pc] 25 (0, 0)) := by rw [hW]; exact blk_new _ _
  have d0 := blk_cell g1 0; have d1 := blk_cell g1 1
  simp at d0 d1
  have H := Lib.hid (show _ ∧ _ from ⟨hB, g1⟩)
  clear hB g1
  go_enter Try.func10, Try.ntmps10
  go_upto_region 1 with fail
  rw [← hW]
  clear hW
  by_cases h1 : qn ≤ 40
  case neg =>
    have z : decide ((qn : Int) ≤ 40) = false := decide_eq_false (by omega)
    have HN := Lib.hid (show decide (few Q A) = false from decide_eq_false fun g => h1 (by rw [← HM.out.2.2.1]; exact g.1))
    go_wp2
    exact bodyPost_ret (v := .bool false) (by simp [results, Try.results10, go_sem]) rfl ⟨by rw [HN.out], H.out.1⟩
  have z : decide ((qn : Int) ≤ 40) = true := decide_eq_true (by omega)
  by_cases h2 : pn ≤ 40
  · have z2 : decide ((pn : Int) ≤ 40) = true := decide_eq_true (by omega)
    have HN := Lib.hid (show decide (few Q A) = true from decide_eq_true ⟨by rw [HM.out.2.2.1]; exact h1, by rw [HM.out.2.2.2]; exact h2⟩)
    go_wp2
    exact bodyPost_ret (v := .bool true) (by simp [results, Try.results10, go_sem]) rfl ⟨by rw [HN.out], H.out.1⟩
  have z2 : decide ((pn : Int) ≤ 40) = false := decide_eq_false (by omega)
  have HN := Lib.hid (show decide (few Q A) = false from decide_eq_false fun g => h2 (by rw [← HM.out.2.2.2]; exact g.2))
  go_wp2
  exact bodyPost_ret (v := .bool false) (by simp [results, Try.results10, go_sem]) rfl ⟨by rw [HN.out], H.out.1⟩
theorem new_any (w : World) : Calls Try.prog 16 #[] w fun e w' => e = .returned (.agg #[.slice none 0 0, .slice none 0 0]) ∧ Below w.heap.size w w' := by
  go_enter Try.func16, Try.ntmps16
  go_wp2
  exact bodyPost_ret (v := .agg #[.slice none 0 0, .slice none 0 0]) (by simp [results, Try.results16, go_sem]) rfl ⟨rfl, by go_grown⟩
theorem rnew_any (w : World) : Calls Try.prog 17 #[] w fun e w' => e = .returned (.agg #[.slice none 0 0, .slice none 0 0]) ∧ Below w.heap.size w w' := by
  go_enter Try.func17, Try.ntmps17
  go_wp2
  exact bodyPost_ret (v := .agg #[.slice none 0 0, .slice none 0 0]) (by simp [results, Try.results17, go_sem]) rfl ⟨rfl, by go_grown⟩
end Go.Proofs.Ythgbkdaimnejeaa
