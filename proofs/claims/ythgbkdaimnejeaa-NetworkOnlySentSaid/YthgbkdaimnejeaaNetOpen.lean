/- Links, packets and lists of packets as arguments (layer 6). -/
import Derived.Test.YthgbkdaimnejeaaOpenX
import Derived.Test.YthgbkdaimnejeaaNetSane
import Derived.ChangeSlices
namespace Go.Proofs.Ythgbkdaimnejeaa
open Go.ChangeShapes Go.WideShapes Go.ChangeAt Go.RowKit Go.Deep

variable {H : Type} {enc : TypeId × Value → H} {w : World} {base : Nat} {spare : Nat → Bool} {held : Bool}
theorem open_bytes {fuel : Nat} {c : Value} {x : DataW H × List MemPlace} (h : DataW.trod enc Try.prog w base spare held fuel 26 [c] = some x) : ∃ (s : Sl) (S : ByteArray), c = .slice s.1 s.2.1 s.2.2 ∧ DatR w s S := by
  obtain ⟨a, len, cap, rfl⟩ := slot_slice Try.underlying26 h
  refine ⟨(a, len, cap), ?_⟩
  rcases open_ints Try.underlying26 Try.underlying5 (by kernel_rfl) h with ⟨hcs, _⟩ | ⟨y, l, c, zs, hcs, _, hl, hm, hz, _, hcell, _⟩
  · simp at hcs
    obtain ⟨rfl, rfl, rfl⟩ := hcs
    exact ⟨_, rfl, 0, 0, [], ⟨rfl, fun h => (by cases h), fun h => (by cases h), fun i hi => (by cases hi)⟩, rfl⟩
  · simp at hcs
    obtain ⟨rfl, rfl, rfl⟩ := hcs
    have hzl : len ≤ zs.length := by rw [hz]; split <;> omega
    by_cases h0 : 0 < len
    · obtain ⟨b, off, spot⟩ := y
      have c0 := hcell 0 (by omega)
      have hspot : spot = none := by simpa [Addr.add] using World.cell?_spot c0
      subst hspot
      have hb : b < w.heap.size := by have := World.block_lt_of_cell? w _ c0; simpa [Addr.add] using this
      refine ⟨_, rfl, b, off, zs.take len, ⟨by simp; omega, fun _ => rfl, fun _ => hb, fun i hi => ?_⟩, rfl⟩
      dsimp only at hi
      have := hcell i (by omega)
      rw [Go.WideShapes.add_plain] at this
      rw [this]
      simp [List.getD_eq_getElem?_getD, hi]
    · obtain rfl : len = 0 := by omega
      exact ⟨_, rfl, 0, 0, [], ⟨rfl, fun h => (by cases h), fun h => (by cases h), fun i hi => (by cases hi)⟩, rfl⟩
instance : Inhabited Kt := ⟨(0, 0, none, 0, 0)⟩
def RKt (w : World) (cs : List Value) (y : Kt × ByteArray) : Prop := cs = [.int .i64 y.1.1, .int .i64 y.1.2.1, .slice y.1.2.2.1 y.1.2.2.2.1 y.1.2.2.2.2] ∧ DatR w y.1.2.2 y.2
theorem open_pkt {fuel : Nat} {cs : List Value} {x : DataW H × List MemPlace} (h : DataW.trod enc Try.prog w base spare held fuel 28 cs = some x) : ∃ y, RKt w cs y := by
  obtain ⟨v0, v1, v2, y0, y1, y2, n, rfl, g0, g1, g2⟩ := trod_s3 Try.underlying28 (by kernel_rfl) (by kernel_rfl) h
  obtain ⟨a0, e0, _, _⟩ := DataW.trod_int Try.underlying3 g0
  obtain ⟨a1, e1, _, _⟩ := DataW.trod_int Try.underlying3 g1
  obtain ⟨s, S, rfl, hS⟩ := open_bytes g2
  simp at e0 e1
  subst e0 e1
  exact ⟨((a0, a1, s), S), rfl, hS⟩
def RQt (cs : List Value) (y : Qt) : Prop := cs = [.int .i64 y.1, .int .i64 y.2]
theorem open_pair {fuel : Nat} {cs : List Value} {x : DataW H × List MemPlace} (h : DataW.trod enc Try.prog w base spare held fuel 55 cs = some x) : ∃ y, RQt cs y := by
  obtain ⟨a, b, rfl⟩ := trod_a2 Try.underlying55 Try.underlying3 (by kernel_rfl) (by kernel_rfl) h
  exact ⟨(a, b), rfl⟩
/-- A list of packets that came in. -/
def PksV (w : World) (s : Sl) (L : List Pk) : Prop := ∃ b off Q D, Ks w s.1 s.2.1 b off Q ∧ Dats w Q D ∧ pkL Q D = L ∧ s.2.1 ≤ s.2.2 ∧ s.2.2 ≤ 9223372036854775807 ∧ (s.1 = none → s.2.2 = 0)
theorem open_pkts {fuel : Nat} {c : Value} {x : DataW H × List MemPlace} (h : DataW.trod enc Try.prog w base spare held fuel 22 [c] = some x) : ∃ (s : Sl) (L : List Pk), c = .slice s.1 s.2.1 s.2.2 ∧ PksV w s L := by
  obtain ⟨a, len, cap, l, rfl, hl⟩ := open_slX (RE := RKt w) (s := 3) Try.underlying22 (by kernel_rfl) (fun _ _ _ _ h => open_pkt h) h
  obtain ⟨b, off, h1, h2, h3, h4, h5, h6⟩ := slX_of (by decide) hl
  refine ⟨(a, len, cap), pkL (l.map (·.1)) (l.map (·.2)), rfl, b, off, l.map (·.1), l.map (·.2), ⟨by simpa using h1, h2, fun i hi => ?_⟩, ⟨by simp, fun i hi => ?_⟩, rfl, h5, h6, h4⟩
  · obtain ⟨cs, hcl, hcc, hR, _⟩ := h3 i hi
    have e : nthK (l.map (·.1)) i = (l.getD i default).1 := by
      unfold nthK
      have hi' : i < l.length := by rw [h1]; exact hi
      simp [List.getD_eq_getElem?_getD, hi']
    rw [e]
    subst hR
    have c0 := hcc 0 _ rfl; have c1 := hcc 1 _ rfl; have c2 := hcc 2 _ rfl
    exact ⟨c0, by rw [Nat.add_assoc]; exact c1, by rw [Nat.add_assoc]; exact c2⟩
  · rw [List.length_map, h1] at hi
    obtain ⟨cs, hcl, hcc, hR, hD⟩ := h3 i hi
    have hi' : i < l.length := by rw [h1]; exact hi
    unfold nthK nthD
    simp [List.getD_eq_getElem?_getD, hi'] at hD ⊢
    exact hD
theorem open_apart {fuel : Nat} {c : Value} {x : DataW H × List MemPlace} (h : DataW.trod enc Try.prog w base spare held fuel 23 [c] = some x) : ∃ (s : Sl) (A : List Qt) (pb po : Nat), c = .slice s.1 s.2.1 s.2.2 ∧ Qs w s.1 s.2.1 pb po A ∧ s.2.1 ≤ 9223372036854775807 := by
  obtain ⟨a, len, cap, l, rfl, hl⟩ := open_slX (RE := RQt) (s := 2) Try.underlying23 (by kernel_rfl) (fun _ _ _ _ h => open_pair h) h
  obtain ⟨b, off, h1, h2, h3, h4, h5, h6⟩ := slX_of (by decide) hl
  refine ⟨(a, len, cap), l, b, off, rfl, ⟨h1, h2, fun i hi => ?_⟩, by dsimp only; omega⟩
  obtain ⟨cs, hcl, hcc, hR⟩ := h3 i hi
  have hi' : i < l.length := by rw [h1]; exact hi
  unfold RQt at hR
  subst hR
  have c0 := hcc 0 _ rfl; have c1 := hcc 1 _ rfl
  have e : nthQ l i = l.getD i default := by unfold nthQ; simp [List.getD_eq_getElem?_getD, hi']
  rw [e]
  exact ⟨c0, by rw [Nat.add_assoc]; exact c1⟩
theorem open_net {r : Reach} {b0 : Nat} {v : Value} {d : DataW H} {p : List MemPlace} (hv : Value.okWide Try.prog w r b0 25 v) (h : DataW.Trod enc Try.prog w base spare held 25 v d p) : ∃ (x : Sl × Sl) (L : List Pk) (A : List Qt), v = vN x ∧ NetV w x L A := by
  obtain ⟨v0, v1, y0, y1, n, rfl, _, _, g0, g1⟩ := Joins.open_agg2 Try.underlying25 (by kernel_rfl) (by kernel_rfl) hv h
  obtain ⟨s, L, rfl, qb, qo, Q, D, k1, k2, k3, k4, k5, k6⟩ := open_pkts g0
  obtain ⟨t, A, pb, po, rfl, m1, m2⟩ := open_apart g1
  exact ⟨(s, t), L, A, rfl, ⟨qb, qo, Q, D, pb, po, k1, k2, k3, m1⟩, k4, k5, k6, m2⟩
theorem open_packet {r : Reach} {b0 : Nat} {v : Value} {d : DataW H} {p : List MemPlace} (hv : Value.okWide Try.prog w r b0 28 v) (h : DataW.Trod enc Try.prog w base spare held 28 v d p) : ∃ (k : Kt) (m : Pk), v = vK k ∧ PkV w k m := by
  obtain ⟨v0, v1, v2, y0, y1, y2, n, rfl, _, _, g0, g1, g2⟩ := Joins.open_agg3 Try.underlying28 (by kernel_rfl) (by kernel_rfl) hv h
  obtain ⟨a0, e0, _, _⟩ := DataW.trod_int Try.underlying3 g0
  obtain ⟨a1, e1, _, _⟩ := DataW.trod_int Try.underlying3 g1
  obtain ⟨s, S, rfl, hS⟩ := open_bytes g2
  simp at e0 e1
  subst e0 e1
  exact ⟨(a0, a1, s), _, rfl, S, hS, rfl⟩
theorem open_packets {r : Reach} {b0 : Nat} {v : Value} {d : DataW H} {p : List MemPlace} (hv : Value.okWide Try.prog w r b0 22 v) (h : DataW.Trod enc Try.prog w base spare held 22 v d p) : ∃ (s : Sl) (L : List Pk), v = .slice s.1 s.2.1 s.2.2 ∧ PksV w s L := by
  obtain ⟨a, len, cap, rfl⟩ := okWide_slice Try.underlying22 hv
  obtain ⟨fuel, hf⟩ := h
  exact open_pkts (by simpa [Value.cells] using hf)
end Go.Proofs.Ythgbkdaimnejeaa
