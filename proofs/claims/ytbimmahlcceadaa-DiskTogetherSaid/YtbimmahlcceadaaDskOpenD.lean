/- An argument that is a disk, and a slice of bytes (layer 4). -/
import Derived.Test.YtbimmahlcceadaaDskOpen
namespace Go.Proofs.Ytbimmahlcceadaa
open Go.ChangeShapes Go.WideShapes Go.ChangeAt Go.RowKit Go.Deep
variable {H : Type} {enc : TypeId × Value → H} {P : Program} {w : World} {base : Nat} {spare : Nat → Bool} {held : Bool}
theorem slot_slice {t e : TypeId} {fuel : Nat} {c : Value} {x : DataW H × List MemPlace} (ht : P.underlying t = some (.slice e)) (h : DataW.trod enc P w base spare held fuel t [c] = some x) : ∃ a len cap, c = .slice a len cap := by
  rcases open_slice ht h with ⟨h0, _⟩ | ⟨ad, n, cc, m, q, D, Pl, hcs, _⟩
  · simp only [List.cons.injEq, and_true] at h0
    exact ⟨_, _, _, h0⟩
  · simp only [List.cons.injEq, and_true] at hcs
    exact ⟨_, _, _, hcs⟩
theorem open_slotS {t e eb : TypeId} {fuel : Nat} {c : Value} {x : DataW H × List MemPlace} (ht : P.underlying t = some (.slice e)) (he : P.underlying e = some (.slice eb)) (heb : P.underlying eb = some (.int .u8)) (hC : P.cellsOf e = 1) (hCb : P.cellsOf eb = 1)
    (h : DataW.trod enc P w base spare held fuel t [c] = some x) : ∃ a len cap S, c = .slice a len cap ∧ LiesS w a len cap S := by
  obtain ⟨a, len, cap, rfl⟩ := slot_slice ht h
  obtain ⟨S, hS⟩ := open_liesS ht he heb hC hCb h
  exact ⟨a, len, cap, S, rfl, hS⟩
theorem open_slotW {t e tb eb : TypeId} {f0 f1 : Field} {fuel : Nat} {c : Value} {x : DataW H × List MemPlace} (ht : P.underlying t = some (.slice e)) (he : P.underlying e = some (.struct #[f0, f1])) (hone : oneCellFields P #[f0, f1] = true) (hC : P.cellsOf e = 2)
    (k0 : P.underlying f0.type = some (.int .i64)) (k1 : f1.type = tb) (htb : P.underlying tb = some (.slice eb)) (heb : P.underlying eb = some (.int .u8)) (hCb : P.cellsOf eb = 1)
    (h : DataW.trod enc P w base spare held fuel t [c] = some x) : ∃ a len cap L, c = .slice a len cap ∧ LiesW w a len cap L := by
  obtain ⟨a, len, cap, rfl⟩ := slot_slice ht h
  obtain ⟨L, hL⟩ := open_liesW ht he hone hC k0 k1 htb heb hCb h
  exact ⟨a, len, cap, L, rfl, hL⟩
theorem slr_of_row {a : Option Addr} {len cap : Nat} {zs : List Int} (h : (a = none ∧ len = 0 ∧ cap = 0 ∧ zs = []) ∨
    ∃ x, a = some x ∧ len ≤ cap ∧ cap ≤ maxLen ∧ zs.length = cap ∧ (∀ i, i < zs.length → w.cell? (x.add i) = some (.int .u8 (zs.getD i 0))) ∧ ∀ n ∈ zs, (Lit.int .u8 n).wf = true) : ∃ l : List Int, l.length = len ∧ SlR w (a, cap, l) ∧ cap ≤ maxLen := by
  rcases h with ⟨rfl, rfl, rfl, rfl⟩ | ⟨x, rfl, hl, hm, hz, hc, _⟩
  · exact ⟨[], rfl, ⟨0, 0, ⟨rfl, fun h => by simp at h, fun h => by simp at h, fun i hi => by simp at hi⟩, fun _ => rfl, Nat.le_refl _⟩, Nat.zero_le _⟩
  · have htk : (zs.take len).length = len := by simp; omega
    refine ⟨zs.take len, htk, ?_, hm⟩
    by_cases h0 : 0 < len
    · obtain ⟨b, off, spot⟩ := x
      have c0 := hc 0 (by omega)
      have hspot : spot = none := by simpa [Addr.add] using World.cell?_spot c0
      subst hspot
      have hb : b < w.heap.size := by have := World.block_lt_of_cell? w _ c0; simpa [Addr.add] using this
      refine ⟨b, off, ⟨rfl, fun _ => rfl, fun _ => hb, fun i hi => ?_⟩, fun e => (by cases e), by show (zs.take len).length ≤ cap; omega⟩
      have hi2 : i < len := by rw [← htk]; exact hi
      have := hc i (by omega)
      rw [Go.WideShapes.add_plain] at this
      rw [this]
      simp [List.getD_eq_getElem?_getD, hi2]
    · have hn : zs.take len = [] := List.eq_nil_of_length_eq_zero (by omega)
      rw [hn]
      exact ⟨0, 0, ⟨rfl, fun h => by simp at h, fun h => by simp at h, fun i hi => by simp at hi⟩, fun e => (by cases e), Nat.zero_le _⟩
end Go.Proofs.Ytbimmahlcceadaa
