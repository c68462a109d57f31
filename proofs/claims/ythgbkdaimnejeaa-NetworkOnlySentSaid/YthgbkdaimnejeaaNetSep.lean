/- Valid links have nothing in the block of a zero packet (layer 6). -/
import Derived.Test.YthgbkdaimnejeaaNetPv
import Derived.Test.YthgbkdaimnejeaaNetLawE
namespace Go.Proofs.Ythgbkdaimnejeaa
open Go.ChangeShapes Go.WideShapes Go.ChangeAt Go.RowKit Go.Sort Go.Shelf

theorem AvS.or {P : Nat → Prop} {p : Nat} {s : Sl} (h : AvS P s) (hp : ∀ ad, s.1 = some ad → 0 < s.2.1 → ad.block ≠ p) : AvS (fun b => P b ∨ b = p) s := fun ad e1 e2 e3 => e3.elim (h ad e1 e2) (hp ad e1 e2)
theorem NetVP.sep {P : Nat → Prop} {p : Nat} {w : World} {x : Sl × Sl} {L : List Pk} {A : List Qt} {t : TypeId} (h : NetVP P w x L A) (hN : NOk L A ∨ (L = [] ∧ A = [])) (hg : w.heap[p]? = some (.cells #[.int .i64 0, .int .i64 0, .slice none 0 0] t (0, 0))) : NetVP (fun b => P b ∨ b = p) w x L A := by
  obtain ⟨⟨qb, qo, Q, D, pb, po, h1, h2, rfl, h4, h9⟩, s1, s2, h5, h6, h7, h8⟩ := h
  have hu := noU8_pk hg
  refine ⟨⟨qb, qo, Q, D, pb, po, h1, h2, rfl, h4, fun k hk => (h9 k hk).or fun ad e1 e2 => ?_⟩, s1.or fun ad e1 e2 e3 => ?_, s2.or fun ad e1 e2 e3 => ?_, h5, h6, h7, h8⟩
  · obtain ⟨i, hi, rfl⟩ := List.mem_iff_getElem.1 hk
    obtain ⟨b, off, l, hR, _⟩ := h2.dat i hi
    have e : nthK Q i = Q[i] := by unfold nthK; rw [List.getD_eq_getElem?_getD, List.getElem?_eq_getElem hi]; rfl
    rw [e] at hR
    have h0 := hR.adr e2
    rw [e1] at h0
    cases h0
    exact hu _ _ _ (hR.cel 0 e2)
  · have h0 := (h1.2.1 e2).1
    rw [e1] at h0
    cases h0
    dsimp only at e3
    subst e3
    obtain ⟨c0, c1, c2⟩ := h1.2.2 0 e2
    have hQ0 : 0 < Q.length := by have := h1.1; omega
    rcases hN with hN | ⟨hN, _⟩
    · have hm := hN.2.1 _ (List.mem_of_getElem? (pkL_at h2.len hQ0))
      rw [blk_cell hg] at c0 c1 c2
      match qo with
      | 0 =>
        simp at c0 c1
        exact hm.1.1 (show (nthK Q 0).1 = (nthK Q 0).2.1 by rw [← c0, ← c1])
      | n + 1 => simp at c2
    · have := pkL_len (Q := Q) (D := D) h2.len
      rw [hN] at this
      simp at this
      omega
  · have h0 := (h4.2.1 e2).1
    rw [e1] at h0
    cases h0
    dsimp only at e3
    subst e3
    obtain ⟨c0, c1⟩ := h4.2.2 0 e2
    have hA0 : 0 < A.length := by have := h4.1; omega
    rcases hN with hN | ⟨_, hN⟩
    · have hm := okAn_in hN.2.2 (show nthQ A 0 ∈ A by unfold nthQ; rw [List.getD_eq_getElem?_getD, List.getElem?_eq_getElem hA0]; exact List.getElem_mem _)
      rw [blk_cell hg] at c0 c1
      match po with
      | 0 =>
        simp at c0 c1
        omega
      | 1 => simp at c1
      | n + 2 => simp at c1
    · rw [hN] at hA0; simp at hA0
end Go.Proofs.Ythgbkdaimnejeaa
