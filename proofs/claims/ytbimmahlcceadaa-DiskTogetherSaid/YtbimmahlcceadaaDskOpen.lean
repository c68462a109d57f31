/- An argument that is a disk, as the walks take it (layer 4): its slices of bytes. -/
import Derived.Test.YtbimmahlcceadaaDsk
import Derived.ProofKit
import Derived.ChangeSlices
import Derived.Deep.Slices
import Derived.Deep.Fields
import Derived.OpenShut
namespace Go.Proofs.Ytbimmahlcceadaa
open Go.ChangeShapes Go.WideShapes Go.ChangeAt Go.RowKit Go.Deep

variable {H : Type} {enc : TypeId × Value → H} {P : Program} {w : World} {base : Nat} {spare : Nat → Bool} {held : Bool}
/-- A slice of bytes that lies in a slot. -/
theorem open_slotB {t e : TypeId} {fuel : Nat} {cs : List Value} {x : DataW H × List MemPlace} (ht : P.underlying t = some (.slice e)) (he : P.underlying e = some (.int .u8)) (hc : P.cellsOf e = 1)
    (h : DataW.trod enc P w base spare held fuel t cs = some x) : ∃ s : Sl, cs = [slV s] ∧ SlR w s ∧ s.2.1 ≤ maxLen := by
  rcases open_ints ht he hc h with ⟨rfl, _⟩ | ⟨a, len, cap, zs, rfl, _, hl, hm, hz, _, hcl, _⟩
  · exact ⟨(none, 0, []), rfl, ⟨0, 0, ⟨rfl, fun h => by simp at h, fun h => by simp at h, fun i hi => by simp at hi⟩, fun _ => rfl, Nat.le_refl _⟩, Nat.zero_le _⟩
  · have hlz : len ≤ zs.length := by rw [hz]; split <;> omega
    have htk : (zs.take len).length = len := by simp; omega
    refine ⟨(some a, cap, zs.take len), by unfold slV; rw [htk], ?_, hm⟩
    by_cases h0 : 0 < len
    · obtain ⟨b, off, spot⟩ := a
      have c0 := hcl 0 (by omega)
      have hspot : spot = none := by simpa [Addr.add] using World.cell?_spot c0
      subst hspot
      have hb : b < w.heap.size := by have := World.block_lt_of_cell? w _ c0; simpa [Addr.add] using this
      refine ⟨b, off, ⟨rfl, fun _ => rfl, fun _ => hb, fun i hi => ?_⟩, fun e => (by cases e), by show (zs.take len).length ≤ cap; omega⟩
      have hi2 : i < len := by rw [← htk]; exact hi
      have := hcl i (by omega)
      rw [Go.WideShapes.add_plain] at this
      rw [this]
      simp [List.getD_eq_getElem?_getD, hi2]
    · have hn : zs.take len = [] := List.eq_nil_of_length_eq_zero (by omega)
      rw [hn]
      exact ⟨0, 0, ⟨rfl, fun h => by simp at h, fun h => by simp at h, fun i hi => by simp at hi⟩, fun e => (by cases e), Nat.zero_le _⟩
/-- Sectors at the places of a slice. -/
def LiesS (w : World) (a : Option Addr) (len cap : Nat) (S : List Sl) : Prop :=
  (a = none ∧ len = 0 ∧ cap = 0 ∧ S = []) ∨ ∃ x, a = some x ∧ len ≤ cap ∧ cap ≤ maxLen ∧ S.length = len ∧ ∀ i, i < len → w.cell? (x.add i) = some (slV (nS S i)) ∧ SlR w (nS S i) ∧ (nS S i).2.1 ≤ maxLen
theorem open_liesS {t e eb : TypeId} {fuel len cap : Nat} {a : Option Addr} {x : DataW H × List MemPlace} (ht : P.underlying t = some (.slice e)) (he : P.underlying e = some (.slice eb)) (heb : P.underlying eb = some (.int .u8)) (hC : P.cellsOf e = 1) (hCb : P.cellsOf eb = 1)
    (h : DataW.trod enc P w base spare held fuel t [.slice a len cap] = some x) : ∃ S, LiesS w a len cap S := by
  rcases open_slice ht h with ⟨h0, _⟩ | ⟨ad, n, c, m, q, D, Pl, hcs, _, hl, hm, hmm, _, hi⟩
  · simp only [List.cons.injEq, Value.slice.injEq, and_true] at h0
    obtain ⟨rfl, rfl, rfl⟩ := h0
    exact ⟨[], .inl ⟨rfl, rfl, rfl, rfl⟩⟩
  · simp only [List.cons.injEq, Value.slice.injEq, and_true] at hcs
    obtain ⟨rfl, rfl, rfl⟩ := hcs
    have key : ∀ i, ∃ y : Sl, i < len → w.cell? (ad.add i) = some (slV y) ∧ SlR w y ∧ y.2.1 ≤ maxLen := by
      intro i
      by_cases hil : i < len
      · obtain ⟨cs', hc, ht'⟩ := hi i (by rw [hmm]; split <;> omega)
        obtain ⟨s, rfl, hs, hsm⟩ := open_slotB he heb hCb ht'
        rw [hC] at hc
        obtain ⟨_, hcl, hat⟩ := World.cells?_some hc
        have c0 := hat 0 (by omega)
        rw [Go.Deep.add_add] at c0
        exact ⟨s, fun _ => ⟨by simpa using c0, hs, hsm⟩⟩
      · exact ⟨(none, 0, []), fun h => absurd h hil⟩
    obtain ⟨f, hf⟩ := Classical.axiomOfChoice key
    refine ⟨(List.range len).map f, .inr ⟨ad, rfl, hl, hm, by simp, fun i hil => ?_⟩⟩
    have e : nS ((List.range len).map f) i = f i := by
      unfold nS
      simp [List.getD_eq_getElem?_getD, hil]
    rw [e]
    exact hf i hil
theorem secs_of {w : World} {a : Option Addr} {len cap : Nat} {S : List Sl} (h : LiesS w a len cap S) : ∃ b off, Secs w a b off len S ∧ len ≤ cap ∧ cap ≤ maxLen ∧ (∀ i, i < len → (nS S i).2.2.length ≤ maxLen) ∧ (a = none → cap = 0) := by
  rcases h with ⟨rfl, rfl, rfl, rfl⟩ | ⟨x, rfl, hl, hm, hz, hc⟩
  · exact ⟨0, 0, ⟨rfl, fun h => by omega, fun h => by omega, fun i hi => by omega, fun i hi => by omega⟩, Nat.le_refl _, Nat.zero_le _, fun i hi => by omega, fun _ => rfl⟩
  · have hll : ∀ i, i < len → (nS S i).2.2.length ≤ maxLen := fun i hi => by
      obtain ⟨_, hs, hm⟩ := hc i hi
      obtain ⟨_, _, _, _, h3⟩ := hs
      omega
    by_cases h0 : 0 < len
    · obtain ⟨b, off, spot⟩ := x
      have hspot : spot = none := by simpa [Addr.add] using World.cell?_spot (hc 0 h0).1
      subst hspot
      have hbw : b < w.heap.size := by have := World.block_lt_of_cell? w _ (hc 0 h0).1; simpa [Addr.add] using this
      refine ⟨b, off, ⟨hz, fun _ => rfl, fun _ => hbw, fun i hi => ?_, fun i hi => (hc i hi).2.1⟩, hl, hm, hll, fun h => (by cases h)⟩
      have := (hc i hi).1
      rw [Go.WideShapes.add_plain] at this
      exact this
    · obtain rfl : len = 0 := by omega
      exact ⟨0, 0, ⟨hz, fun h => by omega, fun h => by omega, fun i hi => by omega, fun i hi => by omega⟩, by omega, hm, fun i hi => by omega, fun h => (by cases h)⟩
theorem trod_W {t : TypeId} {f0 f1 : Field} {fuel : Nat} {cs : List Value} {x : DataW H × List MemPlace} (ht : P.underlying t = some (.struct #[f0, f1])) (h : DataW.trod enc P w base spare held fuel t cs = some x) :
    ∃ y0 y1 n, x = (.agg [y0.1, y1.1], y0.2 ++ y1.2) ∧ cs.length = P.cellsOf t ∧ DataW.trod enc P w base spare held n f0.type ((cs.drop f0.offset).take (P.cellsOf f0.type)) = some y0 ∧ DataW.trod enc P w base spare held n f1.type ((cs.drop f1.offset).take (P.cellsOf f1.type)) = some y1 := by
  obtain ⟨xs, n, _, rfl, hl, hlen, hf⟩ := DataW.trod_struct ht h
  match xs, hlen with
  | [y0, y1], _ => exact ⟨y0, y1, n, by simp, hl, by simpa using hf 0 f0 rfl, by simpa using hf 1 f1 rfl⟩
/-- Writes at the places of a slice. -/
def LiesW (w : World) (a : Option Addr) (len cap : Nat) (l : List Wr) : Prop :=
  (a = none ∧ len = 0 ∧ cap = 0 ∧ l = []) ∨ ∃ x, a = some x ∧ len ≤ cap ∧ cap ≤ maxLen ∧ l.length = len ∧ ∀ i, i < len → w.cell? (x.add (i * 2)) = some (.int .i64 (nW l i).1) ∧ w.cell? (x.add (i * 2 + 1)) = some (slV (nW l i).2) ∧ SlR w (nW l i).2 ∧ (nW l i).2.2.1 ≤ maxLen
theorem open_liesW {t e tb eb : TypeId} {f0 f1 : Field} {fuel len cap : Nat} {a : Option Addr} {x : DataW H × List MemPlace} (ht : P.underlying t = some (.slice e)) (he : P.underlying e = some (.struct #[f0, f1])) (hone : oneCellFields P #[f0, f1] = true) (hC : P.cellsOf e = 2)
    (k0 : P.underlying f0.type = some (.int .i64)) (k1 : f1.type = tb) (htb : P.underlying tb = some (.slice eb)) (heb : P.underlying eb = some (.int .u8)) (hCb : P.cellsOf eb = 1)
    (h : DataW.trod enc P w base spare held fuel t [.slice a len cap] = some x) : ∃ l, LiesW w a len cap l := by
  subst k1
  rcases open_slice ht h with ⟨h0, _⟩ | ⟨ad, n, c, m, q, D, Pl, hcs, _, hl, hm, hmm, _, hi⟩
  · simp only [List.cons.injEq, Value.slice.injEq, and_true] at h0
    obtain ⟨rfl, rfl, rfl⟩ := h0
    exact ⟨[], .inl ⟨rfl, rfl, rfl, rfl⟩⟩
  · simp only [List.cons.injEq, Value.slice.injEq, and_true] at hcs
    obtain ⟨rfl, rfl, rfl⟩ := hcs
    have key : ∀ i, ∃ y : Wr, i < len → w.cell? (ad.add (i * 2)) = some (.int .i64 y.1) ∧ w.cell? (ad.add (i * 2 + 1)) = some (slV y.2) ∧ SlR w y.2 ∧ y.2.2.1 ≤ maxLen := by
      intro i
      by_cases hil : i < len
      · obtain ⟨cs', hc, ht'⟩ := hi i (by rw [hmm]; split <;> omega)
        rw [hC] at hc
        obtain ⟨_, hcl, hat⟩ := World.cells?_some hc
        obtain ⟨y0, y1, n', _, _, g0, g1⟩ := trod_W he ht'
        obtain ⟨o0, s0⟩ := hone_of hone 0 f0 rfl
        obtain ⟨o1, s1⟩ := hone_of hone 1 f1 rfl
        match cs', hcl with
        | [v0, v1], _ =>
          rw [o0, s0] at g0
          rw [o1, s1] at g1
          obtain ⟨a0, e0, _, _⟩ := DataW.trod_int k0 g0
          have g1' : DataW.trod enc P w base spare held n' f1.type [v1] = some y1 := by simpa using g1
          obtain ⟨s, hv1, hs, hsm⟩ := open_slotB htb heb hCb g1'
          simp at e0 hv1
          subst e0 hv1
          have c0 := hat 0 (by omega); have c1 := hat 1 (by omega)
          rw [Go.Deep.add_add] at c0 c1
          exact ⟨(a0, s), fun _ => ⟨by simpa using c0, by simpa using c1, hs, hsm⟩⟩
      · exact ⟨(0, none, 0, []), fun h => absurd h hil⟩
    obtain ⟨f, hf⟩ := Classical.axiomOfChoice key
    refine ⟨(List.range len).map f, .inr ⟨ad, rfl, hl, hm, by simp, fun i hil => ?_⟩⟩
    have e : nW ((List.range len).map f) i = f i := by
      unfold nW
      simp [List.getD_eq_getElem?_getD, hil]
    rw [e]
    exact hf i hil
theorem pens_of {w : World} {a : Option Addr} {len cap : Nat} {l : List Wr} (h : LiesW w a len cap l) : ∃ b off, Pens w a b off len l ∧ len ≤ cap ∧ cap ≤ maxLen ∧ (∀ i, i < len → (nW l i).2.2.2.length ≤ maxLen) ∧ (a = none → cap = 0) := by
  rcases h with ⟨rfl, rfl, rfl, rfl⟩ | ⟨x, rfl, hl, hm, hz, hc⟩
  · exact ⟨0, 0, ⟨rfl, fun h => by omega, fun h => by omega, fun i hi => by omega, fun i hi => by omega, fun i hi => by omega⟩, Nat.le_refl _, Nat.zero_le _, fun i hi => by omega, fun _ => rfl⟩
  · have hll : ∀ i, i < len → (nW l i).2.2.2.length ≤ maxLen := fun i hi => by
      obtain ⟨_, _, hs, hm⟩ := hc i hi
      obtain ⟨_, _, _, _, h3⟩ := hs
      omega
    by_cases h0 : 0 < len
    · obtain ⟨b, off, spot⟩ := x
      have hspot : spot = none := by simpa [Addr.add] using World.cell?_spot (hc 0 h0).1
      subst hspot
      have hbw : b < w.heap.size := by have := World.block_lt_of_cell? w _ (hc 0 h0).1; simpa [Addr.add] using this
      refine ⟨b, off, ⟨hz, fun _ => rfl, fun _ => hbw, fun i hi => ?_, fun i hi => ?_, fun i hi => (hc i hi).2.2.1⟩, hl, hm, hll, fun h => (by cases h)⟩
      · have := (hc i hi).1
        rw [Go.WideShapes.add_plain] at this
        exact this
      · have := (hc i hi).2.1
        rw [Go.WideShapes.add_plain] at this
        rw [Nat.add_assoc]
        exact this
    · obtain rfl : len = 0 := by omega
      exact ⟨0, 0, ⟨hz, fun h => by omega, fun h => by omega, fun i hi => by omega, fun i hi => by omega, fun i hi => by omega⟩, by omega, hm, fun i hi => by omega, fun h => (by cases h)⟩
end Go.Proofs.Ytbimmahlcceadaa
