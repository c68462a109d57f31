/- Links: what the laws say of orders and values (layer 13): mathematics alone. -/
import Derived.Test.YthncfhfnboocmaaLnkSaneM
namespace Go.Proofs.Ythncfhfnboocmaa

theorem orderL_small (m : Int) (l : List Jt) : (orderL m l).length ≤ 16777216 := by
  unfold orderL
  split
  · rename_i h
    have := (chkL_inv h).1
    rw [ordL_len]; omega
  · simp
theorem orderL_len {m : Int} {l : List Jt} (h : chkL m l = 0) : (orderL m l).length = m.toNat := by
  unfold orderL; rw [if_pos h, ordL_len]
theorem valL_small (l : List Jt) (vs : List Int) : (valL l vs).length ≤ vs.length := by
  unfold valL
  split
  · rw [valK_len]; exact Nat.le_refl _
  · simp
theorem valL_len {l : List Jt} {vs : List Int} (h : chkL (vs.length : Int) l = 0) : (valL l vs).length = vs.length := by
  unfold valL; rw [if_pos h, valK_len]

/-- What is right about links, gathered. -/
structure Good (m : Nat) (l : List Jt) : Prop where
  le : m ≤ 256
  few : l.length ≤ 256
  ok : okJs (m : Int) l l.length
  ap : apart l l.length
  en : ends1 l
theorem good_of {m : Nat} {l : List Jt} (h : chkL (m : Int) l = 0) : Good m l := by
  obtain ⟨a, b, ⟨c, d⟩, e⟩ := chkL_inv h
  exact ⟨by omega, by omega, c, d, e⟩
theorem Good.chk {m : Nat} {l : List Jt} (h : Good m l) : chkL (m : Int) l = 0 := chkL_ok ⟨by omega, by have := h.le; omega⟩ (by have := h.few; omega) ⟨h.ok, h.ap⟩ h.en
theorem Good.nxt {m : Nat} {l : List Jt} (h : Good m l) {lst : List Int} (hl : lst.length < m) : nxtL m l lst < m ∧ rdy l lst (nxtL m l lst) := nxt_lt rfl h.ok h.ap h.en hl
theorem ordL_succ (m : Nat) (l : List Jt) (k : Nat) : ordL m l (k + 1) = ordL m l k ++ [(nxtL m l (ordL m l k) : Int)] := rfl
/-- What is listed lies below m, each once. -/
theorem Good.mem {m : Nat} {l : List Jt} (h : Good m l) : ∀ k, k ≤ m → ∀ p ∈ ordL m l k, 0 ≤ p ∧ p < m := by
  intro k
  induction k with
  | zero => intro _ p hp; cases hp
  | succ k ih =>
    intro hk p hp
    rw [ordL_succ, List.mem_append] at hp
    rcases hp with hp | hp
    · exact ih (by omega) p hp
    · rw [List.mem_singleton] at hp
      have := (h.nxt (lst := ordL m l k) (by rw [ordL_len]; omega)).1
      omega
/-- What stands at a place of the order. -/
noncomputable def atO (m : Nat) (l : List Jt) (k : Nat) : Nat := nxtL m l (ordL m l k)
theorem Good.at_lt {m : Nat} {l : List Jt} (h : Good m l) {k : Nat} (hk : k < m) : atO m l k < m := (h.nxt (by rw [ordL_len]; omega)).1
theorem Good.at_rdy {m : Nat} {l : List Jt} (h : Good m l) {k : Nat} (hk : k < m) : rdy l (ordL m l k) (atO m l k : Int) := (h.nxt (by rw [ordL_len]; omega)).2
theorem mem_ordL {m : Nat} {l : List Jt} (p : Int) : ∀ k, p ∈ ordL m l k ↔ ∃ j, j < k ∧ p = (atO m l j : Int) := by
  intro k
  induction k with
  | zero => exact ⟨(fun h => by cases h), (fun ⟨j, h, _⟩ => by omega)⟩
  | succ k ih =>
    rw [ordL_succ, List.mem_append, List.mem_singleton, ih]
    constructor
    · rintro (⟨j, h1, h2⟩ | h)
      · exact ⟨j, by omega, h2⟩
      · exact ⟨k, by omega, h⟩
    · rintro ⟨j, h1, h2⟩
      by_cases e : j = k
      · subst e; exact .inr h2
      · exact .inl ⟨j, by omega, h2⟩
theorem Good.at_ne {m : Nat} {l : List Jt} (h : Good m l) {j k : Nat} (hj : j < k) (hk : k < m) : atO m l j ≠ atO m l k := fun e => by
  have h1 := (h.at_rdy hk).1
  exact h1 ((mem_ordL _ k).2 ⟨j, hj, by rw [e]⟩)
/-- All are listed at the end. -/
theorem Good.all {m : Nat} {l : List Jt} (h : Good m l) {p : Nat} (hp : p < m) : ∃ k, k < m ∧ atO m l k = p := by
  refine Classical.byContradiction fun hc => ?_
  have hn : ∀ k, k < m → atO m l k ≠ p := fun k hk e => hc ⟨k, hk, e⟩
  obtain ⟨i, j, h1, h2, h3⟩ := pigeon (m - 1) (fun k => if atO m l k < p then atO m l k else atO m l k - 1) (fun i hi => by
    have a := h.at_lt (k := i) (by omega)
    have b := hn i (by omega)
    show (if atO m l i < p then atO m l i else atO m l i - 1) < m - 1
    split <;> omega)
  have a1 := hn i (by omega)
  have a2 := hn j (by omega)
  have := h.at_ne h1 (by omega)
  split at h3 <;> split at h3 <;> omega
/-- The source of a link stands before its target. -/
theorem Good.before {m : Nat} {l : List Jt} (h : Good m l) {i : Nat} (hi : i < l.length) {k : Nat} (hk : k < m) (e : (atO m l k : Int) = (nthJ l i).2.1) : ∃ j, j < k ∧ (atO m l j : Int) = (nthJ l i).1 := by
  have h1 := (h.at_rdy hk).2 (nthJ l i).1 (by rw [e]; exact bk_some h.ap hi)
  obtain ⟨j, hj, he⟩ := (mem_ordL _ k).1 h1
  exact ⟨j, hj, he.symm⟩
end Go.Proofs.Ythncfhfnboocmaa
