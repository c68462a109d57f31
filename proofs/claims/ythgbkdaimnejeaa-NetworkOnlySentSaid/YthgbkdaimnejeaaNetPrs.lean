/- Sorted pairs: what Cut answers (layer 6). -/
import Derived.Test.YthgbkdaimnejeaaNetCutM
namespace Go.Proofs.Ythgbkdaimnejeaa
open Go.ChangeShapes Go.WideShapes Go.ChangeAt Go.RowKit

theorem ltQ_irr (x : Qt) : ¬ ltQ x x := fun h => by unfold ltQ at h; omega
theorem ltQ_trans {x y z : Qt} (h : ltQ x y) (k : ltQ y z) : ltQ x z := by unfold ltQ at *; omega
theorem ltQ_tot {x y : Qt} (h : ¬ ltQ x y) (hn : x ≠ y) : ltQ y x := by
  unfold ltQ at *
  obtain ⟨a, b⟩ := x
  obtain ⟨c, d⟩ := y
  dsimp only at *
  have : ¬ (a = c ∧ b = d) := fun e => hn (by rw [e.1, e.2])
  omega
/-- Sorted lists with the same members are equal. -/
theorem sorted_eq : ∀ {l k : List Qt}, l.Pairwise ltQ → k.Pairwise ltQ → (∀ q, q ∈ l ↔ q ∈ k) → l = k
  | [], [], _, _, _ => rfl
  | [], y :: k, _, _, h => by have := (h y).2 (by simp); cases this
  | x :: l, [], _, _, h => by have := (h x).1 (by simp); cases this
  | x :: l, y :: k, hl, hk, h => by
    obtain ⟨l1, l2⟩ := List.pairwise_cons.1 hl
    obtain ⟨k1, k2⟩ := List.pairwise_cons.1 hk
    have hxy : x = y := by
      rcases List.mem_cons.1 ((h x).1 (by simp)) with e | e
      · exact e
      · rcases List.mem_cons.1 ((h y).2 (by simp)) with e2 | e2
        · exact e2.symm
        · exact absurd (ltQ_trans (k1 x e) (l1 y e2)) (ltQ_irr y)
    subst hxy
    rw [sorted_eq l2 k2 fun q => ⟨fun hq => by
      rcases List.mem_cons.1 ((h q).1 (by simp [hq])) with e | e
      · subst e; exact absurd (l1 _ hq) (ltQ_irr _)
      · exact e, fun hq => by
      rcases List.mem_cons.1 ((h q).2 (by simp [hq])) with e | e
      · subst e; exact absurd (k1 _ hq) (ltQ_irr _)
      · exact e⟩]
theorem okAn_lt {A : List Qt} (h : okAn A A.length) : ∀ j, j < A.length → ∀ i, i < j → ltQ (nthQ A i) (nthQ A j)
  | 0, _, i, hi => by omega
  | j + 1, hj, i, hi => by
    have h1 := (h (j + 1) hj).2.2 (by omega)
    rw [Nat.add_sub_cancel] at h1
    by_cases e : i = j
    · subst e; exact h1
    · exact ltQ_trans (okAn_lt h j (by omega) i (by omega)) h1
theorem nthQ_get {A : List Qt} {i : Nat} (h : i < A.length) : nthQ A i = A[i] := by unfold nthQ; simp [List.getD_eq_getElem?_getD, h]
theorem okAn_sorted {A : List Qt} (h : okAn A A.length) : A.Pairwise ltQ := by
  rw [List.pairwise_iff_getElem]
  intro i j hi hj hij
  rw [← nthQ_get hi, ← nthQ_get hj]
  exact okAn_lt h j hj i hij
/-- A pair put where it belongs. -/
def insU (p : Qt) : Bool → List Qt → List Qt × Bool
  | on, [] => ([], on)
  | false, l => (l, false)
  | true, q :: l => if ltQ p q then (p :: q :: l, false) else (q :: (insU p true l).1, (insU p true l).2)
theorem insU_off (p : Qt) (l : List Qt) : insU p false l = (l, false) := by cases l <;> rfl
theorem foldl_insU (p : Qt) : ∀ (l : List Qt) (xs : List Qt) (on : Bool), l.foldl (stepU p) (xs, on) = (xs ++ (insU p on l).1, (insU p on l).2)
  | [], xs, on => by simp [insU]
  | q :: l, xs, false => by
    rw [List.foldl_cons, stepU_off, foldl_insU p l, insU_off, insU_off]
    simp
  | q :: l, xs, true => by
    rw [List.foldl_cons]
    by_cases h : ltQ p q
    · rw [stepU_both h, foldl_insU p l, insU_off]
      simp [insU, h]
    · rw [stepU_one h, foldl_insU p l]
      simp [insU, h]
def insF (p : Qt) (on : Bool) (l : List Qt) : List Qt := if (insU p on l).2 then (insU p on l).1 ++ [p] else (insU p on l).1
theorem cutL_ins (A : List Qt) (p : Qt) (on : Bool) : cutL A p on = insF p on (A.filter (fun x => decide (x ≠ p))) := by
  unfold cutL insF foldU
  rw [foldl_insU]
  rfl
theorem insF_off (p : Qt) (l : List Qt) : insF p false l = l := by unfold insF; rw [insU_off]; rfl
theorem insF_cons (p q : Qt) (l : List Qt) : insF p true (q :: l) = if ltQ p q then p :: q :: l else q :: insF p true l := by
  unfold insF
  by_cases h : ltQ p q
  · simp [insU, h]
  · simp only [insU, h, if_false]
    split <;> simp
theorem insF_mem (p : Qt) (on : Bool) : ∀ (l : List Qt) (q : Qt), q ∈ insF p on l ↔ q ∈ l ∨ (on = true ∧ q = p) := by
  cases on with
  | false => intro l q; rw [insF_off]; simp
  | true =>
    intro l
    induction l with
    | nil => intro q; simp [insF, insU]
    | cons x l ih =>
      intro q
      rw [insF_cons]
      split
      · simp; constructor
        · rintro (h | h | h)
          · exact .inr h
          · exact .inl (.inl h)
          · exact .inl (.inr h)
        · rintro ((h | h) | h)
          · exact .inr (.inl h)
          · exact .inr (.inr h)
          · exact .inl h
      · rw [List.mem_cons, ih q, List.mem_cons, or_assoc]
theorem insF_sorted (p : Qt) (on : Bool) : ∀ (l : List Qt), l.Pairwise ltQ → p ∉ l → (insF p on l).Pairwise ltQ := by
  cases on with
  | false => intro l h _; rw [insF_off]; exact h
  | true =>
    intro l
    induction l with
    | nil => intro _ _; simp [insF, insU]
    | cons x l ih =>
      intro h hp
      obtain ⟨h1, h2⟩ := List.pairwise_cons.1 h
      rw [insF_cons]
      split
      · rename_i hlt
        exact List.pairwise_cons.2 ⟨fun y hy => by
          rcases List.mem_cons.1 hy with rfl | hy
          · exact hlt
          · exact ltQ_trans hlt (h1 y hy), h⟩
      · rename_i hlt
        refine List.pairwise_cons.2 ⟨fun y hy => ?_, ih h2 fun g => hp (by simp [g])⟩
        rcases (insF_mem p true l y).1 hy with g | ⟨_, rfl⟩
        · exact h1 y g
        · exact ltQ_tot hlt fun e => hp (by simp [e])
theorem cutL_mem (A : List Qt) (p : Qt) (on : Bool) (q : Qt) : q ∈ cutL A p on ↔ (q ∈ A ∧ q ≠ p) ∨ (on = true ∧ q = p) := by
  rw [cutL_ins, insF_mem]
  simp
theorem cutL_sorted {A : List Qt} (hA : A.Pairwise ltQ) (p : Qt) (on : Bool) : (cutL A p on).Pairwise ltQ := by
  rw [cutL_ins]
  exact insF_sorted p on _ (hA.sublist List.filter_sublist) (by simp)

/-- All pairs in their order, those that remain. -/
noncomputable def keepC (A : List Qt) (p : Qt) (on : Bool) (q : Qt) : Bool := by classical exact if q = p then on else decide (q ∈ A)
theorem keepC_at {A : List Qt} {p : Qt} {on : Bool} : keepC A p on p = on := by unfold keepC; simp
theorem keepC_ne {A : List Qt} {p q : Qt} {on : Bool} (h : q ≠ p) : keepC A p on q = decide (q ∈ A) := by unfold keepC; rw [if_neg h]
theorem keepC_iff {A : List Qt} {p q : Qt} {on : Bool} : keepC A p on q = true ↔ (q ∈ A ∧ q ≠ p) ∨ (on = true ∧ q = p) := by
  by_cases h : q = p
  · subst h; rw [keepC_at]; simp
  · rw [keepC_ne h]; simp [h]
noncomputable def rowC (A : List Qt) (p : Qt) (on : Bool) (x : Nat) : Nat → List Qt
  | 0 => []
  | y + 1 => if x < y ∧ keepC A p on ((x : Int), (y : Int)) = true then rowC A p on x y ++ [((x : Int), (y : Int))] else rowC A p on x y
theorem rowC_yes {A : List Qt} {p : Qt} {on : Bool} {x y : Nat} (h : x < y) (h2 : keepC A p on ((x : Int), (y : Int)) = true) : rowC A p on x (y + 1) = rowC A p on x y ++ [((x : Int), (y : Int))] := if_pos ⟨h, h2⟩
theorem rowC_no {A : List Qt} {p : Qt} {on : Bool} {x y : Nat} (h : ¬ (x < y ∧ keepC A p on ((x : Int), (y : Int)) = true)) : rowC A p on x (y + 1) = rowC A p on x y := if_neg h
noncomputable def colC (A : List Qt) (p : Qt) (on : Bool) : Nat → List Qt
  | 0 => []
  | x + 1 => colC A p on x ++ rowC A p on x 16
theorem rowC_start (A : List Qt) (p : Qt) (on : Bool) (x : Nat) : ∀ y, y ≤ x + 1 → rowC A p on x y = []
  | 0, _ => rfl
  | y + 1, h => by rw [rowC_no (by omega), rowC_start A p on x y (by omega)]
theorem rowC_mem (A : List Qt) (p : Qt) (on : Bool) (x : Nat) (q : Qt) : ∀ n, q ∈ rowC A p on x n ↔ ∃ y : Nat, x < y ∧ y < n ∧ q = ((x : Int), (y : Int)) ∧ keepC A p on q = true
  | 0 => by simp [rowC]
  | n + 1 => by
    have ih := rowC_mem A p on x q n
    by_cases h : x < n ∧ keepC A p on ((x : Int), (n : Int)) = true
    · rw [rowC_yes h.1 h.2, List.mem_append, ih, List.mem_singleton]
      constructor
      · rintro (⟨y, h1, h2, h3, h4⟩ | rfl)
        · exact ⟨y, h1, by omega, h3, h4⟩
        · exact ⟨n, h.1, by omega, rfl, h.2⟩
      · rintro ⟨y, h1, h2, rfl, h4⟩
        by_cases e : y = n
        · subst e; exact .inr rfl
        · exact .inl ⟨y, h1, by omega, rfl, h4⟩
    · rw [rowC_no h, ih]
      constructor
      · rintro ⟨y, h1, h2, h3, h4⟩
        exact ⟨y, h1, by omega, h3, h4⟩
      · rintro ⟨y, h1, h2, rfl, h4⟩
        refine ⟨y, h1, ?_, rfl, h4⟩
        by_cases e : y = n
        · subst e; exact absurd ⟨h1, h4⟩ h
        · omega
theorem colC_mem (A : List Qt) (p : Qt) (on : Bool) (q : Qt) : ∀ n, q ∈ colC A p on n ↔ ∃ x y : Nat, x < n ∧ x < y ∧ y < 16 ∧ q = ((x : Int), (y : Int)) ∧ keepC A p on q = true
  | 0 => by simp [colC]
  | n + 1 => by
    have ih := colC_mem A p on q n
    rw [colC, List.mem_append, ih, rowC_mem]
    constructor
    · rintro (⟨x, y, h1, h2, h3, h4, h5⟩ | ⟨y, h1, h2, h3, h4⟩)
      · exact ⟨x, y, by omega, h2, h3, h4, h5⟩
      · exact ⟨n, y, by omega, h1, h2, h3, h4⟩
    · rintro ⟨x, y, h1, h2, h3, h4, h5⟩
      by_cases e : x = n
      · subst e; exact .inr ⟨y, h2, h3, h4, h5⟩
      · exact .inl ⟨x, y, by omega, h2, h3, h4, h5⟩
theorem rowC_sorted (A : List Qt) (p : Qt) (on : Bool) (x : Nat) : ∀ n, (rowC A p on x n).Pairwise ltQ
  | 0 => by simp [rowC]
  | n + 1 => by
    have ih := rowC_sorted A p on x n
    by_cases h : x < n ∧ keepC A p on ((x : Int), (n : Int)) = true
    · rw [rowC_yes h.1 h.2, List.pairwise_append]
      refine ⟨ih, by simp, fun q hq r hr => ?_⟩
      obtain ⟨y, h1, h2, rfl, _⟩ := (rowC_mem A p on x q n).1 hq
      rw [List.mem_singleton.1 hr]
      unfold ltQ; dsimp only; omega
    · rw [rowC_no h]; exact ih
theorem colC_sorted (A : List Qt) (p : Qt) (on : Bool) : ∀ n, (colC A p on n).Pairwise ltQ
  | 0 => by simp [colC]
  | n + 1 => by
    rw [colC, List.pairwise_append]
    refine ⟨colC_sorted A p on n, rowC_sorted A p on n 16, fun q hq r hr => ?_⟩
    obtain ⟨x, y, h1, h2, h3, rfl, _⟩ := (colC_mem A p on q n).1 hq
    obtain ⟨y', h1', h2', rfl, _⟩ := (rowC_mem A p on n r 16).1 hr
    unfold ltQ; dsimp only; omega
theorem okAn_in {A : List Qt} (h : okAn A A.length) {q : Qt} (hq : q ∈ A) : 0 ≤ q.1 ∧ q.1 < q.2 ∧ q.2 < 16 := by
  obtain ⟨i, hi, rfl⟩ := List.mem_iff_getElem.1 hq
  have := h i hi
  rw [← nthQ_get hi]
  have h1 := this.1; have h2 := this.2.1
  unfold prt at h1; omega
theorem prQ_in {a b : Int} (h : prt a b) : 0 ≤ (prQ a b).1 ∧ (prQ a b).1 < (prQ a b).2 ∧ (prQ a b).2 < 16 := by
  unfold prt at h; rw [rprQ]; split <;> (dsimp only; omega)
theorem colC_cut {A : List Qt} (h : okAn A A.length) {p : Qt} (hp : 0 ≤ p.1 ∧ p.1 < p.2 ∧ p.2 < 16) (on : Bool) : colC A p on 16 = cutL A p on := by
  refine sorted_eq (colC_sorted A p on 16) (cutL_sorted (okAn_sorted h) p on) fun q => ?_
  rw [colC_mem, cutL_mem, ← keepC_iff]
  constructor
  · rintro ⟨x, y, _, _, _, _, h5⟩; exact h5
  · intro hk
    have hq : 0 ≤ q.1 ∧ q.1 < q.2 ∧ q.2 < 16 := by
      rcases keepC_iff.1 hk with ⟨h1, _⟩ | ⟨_, h1⟩
      · exact okAn_in h h1
      · rw [h1]; exact hp
    obtain ⟨q0, q1⟩ := q
    dsimp only at hq
    obtain ⟨x, rfl⟩ : ∃ x : Nat, q0 = x := ⟨q0.toNat, by omega⟩
    obtain ⟨y, rfl⟩ : ∃ y : Nat, q1 = y := ⟨q1.toNat, by omega⟩
    exact ⟨x, y, by omega, by omega, by omega, rfl, hk⟩
theorem rowC_len (A : List Qt) (p : Qt) (on : Bool) (n : Nat) : ∀ m, (rowC A p on n m).length ≤ m := fun m => by
  induction m with
  | zero => simp [rowC]
  | succ m ih =>
    by_cases h : n < m ∧ keepC A p on ((n : Int), (m : Int)) = true
    · rw [rowC_yes h.1 h.2]; simp; omega
    · rw [rowC_no h]; omega
theorem colC_len (A : List Qt) (p : Qt) (on : Bool) : ∀ n, (colC A p on n).length ≤ 16 * n
  | 0 => by simp [colC]
  | n + 1 => by
    have h1 := colC_len A p on n
    have h2 := rowC_len A p on n
    have h3 := h2 16
    rw [colC, List.length_append]; omega
end Go.Proofs.Ythgbkdaimnejeaa
