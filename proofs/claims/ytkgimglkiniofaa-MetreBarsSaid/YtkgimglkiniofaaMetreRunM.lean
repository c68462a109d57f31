/- The bars of a part as a run of bars; appends behind a guard (layer 10). -/
import Derived.Test.YtkgimglkiniofaaMetreBarsM
namespace Go.Proofs.Ytkgimglkiniofaa
open Go.ChangeShapes Go.WideShapes Go.ChangeAt Go.RowKit

/-- The bars of a part, as a walk takes them. -/
structure Run (l : List Mt) (fr to : Int) (A : List Int) (s m : Nat) : Prop where
  len : A.length = m
  le : m ≤ 4096
  bars : s + m ≤ 1048577
  nth : ∀ i, i < m → A.getD i 0 = bg l ((s + i : Nat) : Int)
  part : ∀ i, i < m → fr ≤ A.getD i 0 ∧ A.getD i 0 < to
theorem bars_run {l : List Mt} {fr to : Int} {A : List Int} (h : BarsRes l fr to 0 A) : Changes l ∧ (0 ≤ fr ∧ fr ≤ to ∧ to ≤ 16777216) ∧ A = outK l fr to 1048577 ∧ ∃ s m, Run l fr to A s m := by
  rcases h with ⟨_, e, _⟩ | ⟨_, _, e, _⟩ | ⟨hc, hp, e, eA⟩
  · exact absurd e (by decide)
  · exact absurd e (by decide)
  · have eF := allF_outK hc fr to
    have hx : (allF l fr to (List.range l.length)).length ≤ 4096 := by
      rcases Nat.lt_or_ge 4096 (allF l fr to (List.range l.length)).length with h1 | h1
      · rw [(bIs_gt h1).1] at e; exact absurd e (by decide)
      · exact h1
    have e2 := (bIs_le rfl hx).2
    have eO : A = outK l fr to 1048577 := eA.trans (e2.trans eF)
    obtain ⟨s, m, hsm, e3, _⟩ := outK_run hc fr to 1048577 (Nat.le_refl _)
    have eR : A = (List.range m).map (fun i => bg l ((s + i : Nat) : Int)) := eO.trans e3
    have hlen : A.length = m := by rw [eR]; simp
    refine ⟨hc, hp, eO, s, m, hlen, ?_, hsm, fun i hi => ?_, fun i hi => ?_⟩
    · rw [← hlen, eA, e2]; exact hx
    · rw [eR]; simp [List.getD_eq_getElem?_getD, hi]
    · have hm : A.getD i 0 ∈ A := by
        rw [List.getD_eq_getElem?_getD, List.getElem?_eq_getElem (by omega)]
        exact List.getElem_mem _
      have hm2 : A.getD i 0 ∈ outK l fr to 1048577 := eO ▸ hm
      obtain ⟨_, _, _, h1, h2⟩ := mem_outK.1 hm2
      exact ⟨h1, h2⟩
theorem bars_err {l : List Mt} {fr to r : Int} {A : List Int} (h : BarsRes l fr to r A) (hr : r ≠ 0) : A = [] := by
  rcases h with ⟨_, _, e⟩ | ⟨_, _, _, e⟩ | ⟨_, _, e, eA⟩
  · exact e
  · exact e
  · rcases Nat.lt_or_ge 4096 (allF l fr to (List.range l.length)).length with h1 | h1
    · exact eA.trans (bIs_gt h1).2
    · exact absurd (e.trans (bIs_le rfl h1).1) hr
theorem bars_of {l : List Mt} {fr to r : Int} {A : List Int} (h : BarsRes l fr to r A) (hc : Changes l) (hp : 0 ≤ fr ∧ fr ≤ to ∧ to ≤ 16777216) (hl : (outK l fr to 1048577).length ≤ 4096) : r = 0 ∧ A = outK l fr to 1048577 := by
  rcases h with ⟨n, _⟩ | ⟨_, n, _⟩ | ⟨_, _, e, eA⟩
  · exact absurd hc n
  · exact absurd hp n
  · have eF := allF_outK hc fr to
    have hx : (allF l fr to (List.range l.length)).length ≤ 4096 := by rw [eF]; exact hl
    have e2 := bIs_le rfl hx
    exact ⟨e.trans e2.1, eA.trans (e2.2.trans eF)⟩
theorem parts_len {A B C : List Int} (h : A ++ B = C) (hl : C.length ≤ 4096) : A.length ≤ 4096 ∧ B.length ≤ 4096 := by
  rw [← h, List.length_append] at hl; omega
theorem Run.lt {l : List Mt} {fr to : Int} {A : List Int} {s m : Nat} (h : Run l fr to A s m) (hc : Changes l) {i : Nat} (hi : i + 1 < m) : A.getD i 0 < A.getD (i + 1) 0 := by
  have := h.bars
  rw [h.nth i (by omega), h.nth (i + 1) hi]
  exact bg_lt hc (by omega) (by omega) (by omega)
theorem Run.place {l : List Mt} {fr to : Int} {A : List Int} {s m : Nat} (h : Run l fr to A s m) (hc : Changes l) (ht : to ≤ 16777216) {i : Nat} (hi : i < m) {B b o r : Int} (hT : PlaceRes l (A.getD i 0) B b o r) : B = ((s + i : Nat) : Int) ∧ b = 0 ∧ o = 0 ∧ r = 0 := by
  have := h.bars
  have hp := h.part i hi
  rw [h.nth i hi] at hT hp
  exact place_bg hc (by omega) (by omega) (by omega) hT
theorem Ints.noCap {w : World} {B : Nat} {a : Option Addr} {n c : Nat} {l : List Int} (h : Ints w B (.slice a n c) l) : a = none → c = 0 := by
  rintro rfl
  rcases h.2 with ⟨h0, _⟩ | ⟨g, cap, cur, h1, _⟩
  · cases h0; rfl
  · cases h1

variable {ops : Array Oper} {o : Oper} {a : Act} {Q : Exit → Act → World → Prop} {w : World}
theorem wpList_open {P : Program} {rest : List Oper} (hw : Region.wanted o (yielded ops a.tmps) = true)
    (h : ∀ K : Act → World → Prop, (∀ a w, wpList P ops Q rest a w → K a w) → o.wp P a w K Q) : wpList P ops Q (o :: rest) a w :=
  wpList_step fun K hK => by simp only [hw, if_true]; exact h K hK
theorem wpList_append_row_open {rest : List Oper} (hw : Region.wanted o (yielded ops a.tmps) = true) (s x : Operand) (ho : o.op = .call { callee := .builtin .append, args := #[s, x], argTypes := #[31, 31] })
    (B : Nat) (v : Value) (l : List Int) (hs : a.eval s = v) (hown : Ints w B v l) (ax : Option Addr) (b off n c : Nat) (l2 : List Int) (hx : a.eval x = .slice ax n c) (hr : Row w ax b off n l2) (hnc : ax = none → c = 0)
    (hlen : l.length + n ≤ 1000000) (hB : B ≤ w.heap.size)
    (h : ∀ v' w', Ints w' B v' (l ++ l2) → Below B w w' → w.grownBy w' v.ownBlock → wpList Try.prog ops Q rest (a.put o.dst v') w') : wpList Try.prog ops Q (o :: rest) a w :=
  wpList_open hw fun _ hK => wp_append_row s x ho B v l hs hown ax b off n c l2 hx hr hnc hlen hB fun v' w' h1 h2 h3 => hK _ _ (h v' w' h1 h2 h3)

/-- Whether the tick is among the first k. -/
def inA (A : List Int) (t : Int) (k : Nat) : Bool := (A.take k).any (· == t)
theorem inA_succ (A : List Int) (t : Int) {k : Nat} (hk : k < A.length) : inA A t (k + 1) = (inA A t k || A.getD k 0 == t) := by
  unfold inA
  rw [List.take_add_one, List.any_append, List.getElem?_eq_getElem hk]
  simp [List.getD_eq_getElem?_getD, hk]
theorem inA_all (A : List Int) (t : Int) : inA A t A.length = true ↔ t ∈ A := by
  unfold inA
  rw [List.take_length, List.any_eq_true]
  constructor
  · rintro ⟨x, hx, e⟩
    have : x = t := by simpa using e
    exact this ▸ hx
  · intro h
    exact ⟨t, h, by simp⟩
end Go.Proofs.Ytkgimglkiniofaa
