/- Moves as arguments, and a new packet's box beside links (layer 6). -/
import Derived.Test.YthgbkdaimnejeaaNetOpen
import Derived.Test.YthgbkdaimnejeaaNetPv
namespace Go.Proofs.Ythgbkdaimnejeaa
open Go.ChangeShapes Go.WideShapes Go.ChangeAt Go.RowKit Go.Sort Go.Shelf Go.Deep

section
variable {H : Type} {enc : TypeId × Value → H} {P : Program} {w : World} {base : Nat} {spare : Nat → Bool} {held : Bool}
theorem trod_s5 {t : TypeId} {f0 f1 f2 f3 f4 : Field} {fuel : Nat} {cs : List Value} {x : DataW H × List MemPlace} (ht : P.underlying t = some (.struct #[f0, f1, f2, f3, f4])) (hone : oneCellFields P #[f0, f1, f2, f3, f4] = true) (hC : P.cellsOf t = 5) (h : DataW.trod enc P w base spare held fuel t cs = some x) :
    ∃ v0 v1 v2 v3 v4 y0 y1 y2 y3 y4 n, cs = [v0, v1, v2, v3, v4] ∧ DataW.trod enc P w base spare held n f0.type [v0] = some y0 ∧ DataW.trod enc P w base spare held n f1.type [v1] = some y1 ∧ DataW.trod enc P w base spare held n f2.type [v2] = some y2 ∧ DataW.trod enc P w base spare held n f3.type [v3] = some y3 ∧ DataW.trod enc P w base spare held n f4.type [v4] = some y4 := by
  obtain ⟨xs, n, _, rfl, hl, hlen, hf⟩ := DataW.trod_struct ht h
  rw [hC] at hl
  obtain ⟨o0, k0⟩ := hone_of hone 0 f0 rfl
  obtain ⟨o1, k1⟩ := hone_of hone 1 f1 rfl
  obtain ⟨o2, k2⟩ := hone_of hone 2 f2 rfl
  obtain ⟨o3, k3⟩ := hone_of hone 3 f3 rfl
  obtain ⟨o4, k4⟩ := hone_of hone 4 f4 rfl
  match cs, hl, xs, hlen with
  | [v0, v1, v2, v3, v4], _, [y0, y1, y2, y3, y4], _ =>
    have g0 := hf 0 f0 rfl; have g1 := hf 1 f1 rfl; have g2 := hf 2 f2 rfl; have g3 := hf 3 f3 rfl; have g4 := hf 4 f4 rfl
    rw [o0, k0] at g0; rw [o1, k1] at g1; rw [o2, k2] at g2; rw [o3, k3] at g3; rw [o4, k4] at g4
    exact ⟨v0, v1, v2, v3, v4, y0, y1, y2, y3, y4, n, rfl, by simpa using g0, by simpa using g1, by simpa using g2, by simpa using g3, by simpa using g4⟩
end
def RMv (cs : List Value) (y : Nat × Nat × Nat × Nat × Nat) : Prop := cs = [.int .u8 y.1, .int .u8 y.2.1, .int .u8 y.2.2.1, .int .u8 y.2.2.2.1, .int .u8 y.2.2.2.2] ∧ y.1 ≤ 255 ∧ y.2.1 ≤ 255 ∧ y.2.2.1 ≤ 255 ∧ y.2.2.2.1 ≤ 255
section
variable {H : Type} {enc : TypeId × Value → H} {w : World} {base : Nat} {spare : Nat → Bool} {held : Bool}
theorem open_u8 {n : Nat} {v : Value} {y : DataW H × List MemPlace} (h : DataW.trod enc Try.prog w base spare held n 5 [v] = some y) : ∃ k : Nat, v = .int .u8 k ∧ k ≤ 255 := by
  obtain ⟨k, e, _, hw⟩ := DataW.trod_int Try.underlying5 h
  simp at e
  have hb := bounds_u8 hw
  exact ⟨k.toNat, by rw [e, Int.toNat_of_nonneg hb.1], by omega⟩
theorem open_mv {fuel : Nat} {cs : List Value} {x : DataW H × List MemPlace} (h : DataW.trod enc Try.prog w base spare held fuel 49 cs = some x) : ∃ y, RMv cs y := by
  obtain ⟨v0, v1, v2, v3, v4, y0, y1, y2, y3, y4, n, rfl, g0, g1, g2, g3, g4⟩ := trod_s5 Try.underlying49 (by kernel_rfl) (by kernel_rfl) h
  obtain ⟨k0, rfl, h0⟩ := open_u8 g0
  obtain ⟨k1, rfl, h1⟩ := open_u8 g1
  obtain ⟨k2, rfl, h2⟩ := open_u8 g2
  obtain ⟨k3, rfl, h3⟩ := open_u8 g3
  obtain ⟨k4, rfl, h4⟩ := open_u8 g4
  exact ⟨(k0, k1, k2, k3, k4), rfl, h0, h1, h2, h3⟩
/-- A list of moves that came in. -/
def MvsR (w : World) (sa : Option Addr) (sn sb so : Nat) : Prop := (0 < sn → sa = some ⟨sb, so, none⟩) ∧ ∀ i, i < sn → ∃ v0 v1 v2 v3 v4 : Nat, v0 ≤ 255 ∧ v1 ≤ 255 ∧ v2 ≤ 255 ∧ v3 ≤ 255 ∧ w.cell? ⟨sb, so + i * 5, none⟩ = some (.int .u8 v0) ∧ w.cell? ⟨sb, so + i * 5 + 1, none⟩ = some (.int .u8 v1) ∧ w.cell? ⟨sb, so + i * 5 + 2, none⟩ = some (.int .u8 v2) ∧ w.cell? ⟨sb, so + i * 5 + 3, none⟩ = some (.int .u8 v3) ∧ w.cell? ⟨sb, so + i * 5 + 4, none⟩ = some (.int .u8 v4)
theorem open_mvs {fuel : Nat} {c : Value} {x : DataW H × List MemPlace} (h : DataW.trod enc Try.prog w base spare held fuel 45 [c] = some x) : ∃ (s : Sl) (b off : Nat), c = .slice s.1 s.2.1 s.2.2 ∧ MvsR w s.1 s.2.1 b off := by
  obtain ⟨a, len, cap, l, rfl, hl⟩ := open_slX (RE := RMv) (s := 5) Try.underlying45 (by kernel_rfl) (fun _ _ _ _ h => open_mv h) h
  obtain ⟨b, off, h1, h2, h3, h4, h5, h6⟩ := slX_of (by decide) hl
  refine ⟨(a, len, cap), b, off, rfl, fun h0 => (h2 h0).1, fun i hi => ?_⟩
  obtain ⟨cs, hcl, hcc, hR, q0, q1, q2, q3⟩ := h3 i hi
  subst hR
  exact ⟨_, _, _, _, _, q0, q1, q2, q3, hcc 0 _ rfl, hcc 1 _ rfl, hcc 2 _ rfl, hcc 3 _ rfl, hcc 4 _ rfl⟩
theorem open_moves {r : Reach} {b0 : Nat} {v : Value} {d : DataW H} {p : List MemPlace} (hv : Value.okWide Try.prog w r b0 45 v) (h : DataW.Trod enc Try.prog w base spare held 45 v d p) : ∃ (s : Sl) (b off : Nat), v = .slice s.1 s.2.1 s.2.2 ∧ MvsR w s.1 s.2.1 b off := by
  obtain ⟨a, len, cap, rfl⟩ := okWide_slice Try.underlying45 hv
  obtain ⟨fuel, hf⟩ := h
  exact open_mvs (by simpa [Value.cells] using hf)
end
end Go.Proofs.Ythgbkdaimnejeaa
