/- The contracts by what they hold (layer 44). -/
import Derived.Test.YthnhnmmabjmjgaaOvdAgain
import Derived.Test.YthnhnmmabjmjgaaOvdSame
namespace Go.Proofs.Ythnhnmmabjmjgaa
open Go.ChangeShapes Go.WideShapes Go.ChangeAt Go.RowKit Go.Shelf

abbrev Sl := Option Addr × Nat × Nat
abbrev vS (s : Sl) : Value := .slice s.1 s.2.1 s.2.2
def DsV (w : World) (s : Sl) (L : List Dt) : Prop := ∃ b off, Ds w s.1 s.2.1 b off L ∧ s.2.1 ≤ 9223372036854775807
def HsV (w : World) (s : Sl) (L : List Ht) : Prop := ∃ b off, Hs w s.1 s.2.1 b off L ∧ s.2.1 ≤ s.2.2 ∧ s.2.2 ≤ 9223372036854775807
def RsV (w : World) (s : Sl) (L : List Rt) : Prop := ∃ b off, Rs w s.1 s.2.1 b off L ∧ s.2.1 ≤ 9223372036854775807
theorem DsV.grown {w w' : World} {s : Sl} {L : List Dt} (h : DsV w s L) (hb : Below w.heap.size w w') : DsV w' s L := by obtain ⟨b, off, h1, h2⟩ := h; exact ⟨b, off, h1.grown hb, h2⟩
theorem HsV.grown {w w' : World} {s : Sl} {L : List Ht} (h : HsV w s L) (hb : Below w.heap.size w w') : HsV w' s L := by obtain ⟨b, off, h1, h2⟩ := h; exact ⟨b, off, h1.grown hb, h2⟩
theorem RsV.grown {w w' : World} {s : Sl} {L : List Rt} (h : RsV w s L) (hb : Below w.heap.size w w') : RsV w' s L := by obtain ⟨b, off, h1, h2⟩ := h; exact ⟨b, off, h1.grown hb, h2⟩
theorem DsV.len {w : World} {s : Sl} {L : List Dt} (h : DsV w s L) : s.2.1 = L.length := by obtain ⟨b, off, h1, h2⟩ := h; exact h1.1.symm
theorem HsV.len {w : World} {s : Sl} {L : List Ht} (h : HsV w s L) : s.2.1 = L.length := by obtain ⟨b, off, h1, h2⟩ := h; exact h1.1.symm
theorem RsV.len {w : World} {s : Sl} {L : List Rt} (h : RsV w s L) : s.2.1 = L.length := by obtain ⟨b, off, h1, h2⟩ := h; exact h1.1.symm
theorem HsV.zero (w : World) : HsV w (none, 0, 0) [] := ⟨0, 0, Hs.zero w _, Nat.le_refl _, by simp⟩
theorem RsV.zero (w : World) : RsV w (none, 0, 0) [] := ⟨0, 0, Rs.zero w _, by simp⟩
theorem DsO.v {w : World} {B : Nat} {v : Value} {L : List Dt} (h : DsO w B v L) : ∃ s : Sl, v = vS s ∧ DsV w s L := by
  obtain ⟨a, b, c, rfl, h1, -, -, h2, h3⟩ := h.s
  unfold maxLen at h3
  exact ⟨(a, L.length, c), rfl, b, 0, h1, by dsimp only; omega⟩
theorem lay_s (s : Sl) (l : List Ht) (st k i o : Int) (w : World) (h : HsV w s l) :
    Calls Try.prog 11 #[vS s, .int .i64 st, .int .i64 k, .int .i64 i, .int .i64 o] w fun e w' => ∃ s' : Sl, e = .returned (.tuple #[vS s', .int .i64 (layS l st k i o).1]) ∧ DsV w' s' (layS l st k i o).2 ∧ Below w.heap.size w w' := by
  obtain ⟨b, off, h1, h2, h3⟩ := h
  refine (lay_any s.1 s.2.1 s.2.2 b off l st k i o w h1 h2 h3).mono ?_
  rintro e w' ⟨v, rfl, hO, hb⟩
  obtain ⟨s', rfl, hs⟩ := hO.v
  exact ⟨s', rfl, hs, hb⟩
theorem again_s (r : Sl) (R : List Rt) (d : Int) (s : Sl) (l : List Ht) (st k kn : Int) (w : World) (hr : RsV w r R) (h : HsV w s l) :
    Calls Try.prog 14 #[vS r, .int .i64 d, vS s, .int .i64 st, .int .i64 k, .int .i64 kn] w fun e w' => ∃ s' : Sl, e = .returned (.tuple #[vS s', .int .i64 (againS R d l st k kn).1]) ∧ DsV w' s' (againS R d l st k kn).2 ∧ Below w.heap.size w w' := by
  obtain ⟨b, off, h1, h2, h3⟩ := h
  obtain ⟨rb, ro, h4, h5⟩ := hr
  refine (again_any r.1 r.2.1 r.2.2 rb ro R d s.1 s.2.1 s.2.2 b off l st k kn w h4 h5 h1 h2 h3).mono ?_
  rintro e w' ⟨v, rfl, hO, hb⟩
  obtain ⟨s', rfl, hs⟩ := hO.v
  exact ⟨s', rfl, hs, hb⟩
theorem at_s (r : Sl) (R : List Rt) (d p k : Int) (w : World) (hr : RsV w r R) :
    Calls Try.prog 21 #[vS r, .int .i64 d, .int .i64 p, .int .i64 k] w fun e w' => e = .returned (vA (atV R d p k)) ∧ Below w.heap.size w w' := by
  obtain ⟨rb, ro, h4, h5⟩ := hr
  exact at_any r.1 r.2.1 r.2.2 rb ro R d p k w h4 h5
theorem rsame_s (s s' : Sl) (L L' : List Dt) (b : Bool) (hb : decide (L = L') = b) (w : World) (h : DsV w s L) (h' : DsV w s' L') :
    Calls Try.prog 13 #[vS s, vS s'] w fun e w' => e = .returned (.bool b) ∧ Below w.heap.size w w' := by
  obtain ⟨b1, o1, h1, h2⟩ := h
  obtain ⟨b2, o2, h3, h4⟩ := h'
  have := rsame_any s.1 s.2.1 s.2.2 b1 o1 L s'.1 s'.2.1 s'.2.2 b2 o2 L' w h1 h3 h2 h4
  rwa [hb] at this
/-- Places of a take, by what they are. -/
def PlV (D : List Int) (w : World) (s : Sl) (L : List Pt) : Prop := ∃ b, PsV D w s.1 s.2.1 b L
theorem PlV.grown {D : List Int} {w w' : World} {s : Sl} {L : List Pt} (h : PlV D w s L) (hb : Below w.heap.size w w') : PlV D w' s L := by obtain ⟨b, h1⟩ := h; exact ⟨b, h1.grown hb⟩
theorem PlV.len {D : List Int} {w : World} {s : Sl} {L : List Pt} (h : PlV D w s L) : s.2.1 = L.length := by obtain ⟨b, h1⟩ := h; exact h1.1.symm
theorem places_s (s : Sl) (l : List Dt) (D : List Int) (hD : D.length = 32) (w : World) (h : DsV w s l) :
    Calls Try.prog 16 #[vS s, .agg (bV D)] w fun e w' => ∃ s' : Sl, e = .returned (.tuple #[vS s', .int .i64 (plcS l).1]) ∧ PlV D w' s' (plcS l).2 ∧ Below w.heap.size w w' := by
  obtain ⟨b, off, h1, h2⟩ := h
  refine (places_any s.1 s.2.1 s.2.2 b off l D hD w h1 h2).mono ?_
  rintro e w' ⟨v, rfl, hO, hb⟩
  obtain ⟨a, b', c, rfl, hs, -⟩ := hO.s hD
  exact ⟨(a, (plcS l).2.length, c), rfl, ⟨b', hs⟩, hb⟩
/-- The cells of one of them. -/
theorem PsV.cells {D : List Int} (hD : D.length = 32) {w : World} {a : Option Addr} {n b : Nat} {L : List Pt} (h : PsV D w a n b L) {i : Nat} (hi : i < n) :
    w.cell? ⟨b, i * 42, none⟩ = some (.int .i64 (nthP L i).1) ∧ w.cell? ⟨b, i * 42 + 1, none⟩ = some (.int .i64 0) ∧ w.cell? ⟨b, i * 42 + 2, none⟩ = some (.int .i64 (nthP L i).2.1) ∧ w.rangeAt b (i * 42 + 3) (clipL D (nthP L i).2.2.1 (nthP L i).2.2.2) := by
  refine ⟨(h.2.2 i 0 hi (by omega)).trans rfl, (h.2.2 i 1 hi (by omega)).trans rfl, (h.2.2 i 2 hi (by omega)).trans rfl, fun j v hv => ?_⟩
  have hj : j < 39 := by have := (List.getElem?_eq_some_iff.1 hv).1; simpa [clipL, hD] using this
  rw [show i * 42 + 3 + j = i * 42 + (3 + j) by omega, h.2.2 i (3 + j) hi (by omega), show 3 + j = j + 1 + 1 + 1 by omega]
  exact hv
set_option maxRecDepth 100000 in
theorem span_any (a b c : Int) (r : Bool) (w : World) : Calls Try.prog 25 #[.int .i64 a, .int .i64 b, .int .i64 c, .bool r] w fun e w' => e = .returned (.agg #[.int .i64 a, .int .i64 b, .int .i64 c, .bool true, .bool r]) ∧ Below w.heap.size w w' := by
  go_enter Try.func25, Try.ntmps25
  go_wp2
  exact bodyPost_ret (v := .agg #[.int .i64 a, .int .i64 b, .int .i64 c, .bool true, .bool r]) (by simp [results, Try.results25, go_sem]) rfl ⟨rfl, by go_grown⟩
theorem lay_e {s : Sl} {l : List Ht} {st k i o c : Int} {L : List Dt} (w : World) (hL : layS l st k i o = (c, L)) (h : HsV w s l) :
    Calls Try.prog 11 #[vS s, .int .i64 st, .int .i64 k, .int .i64 i, .int .i64 o] w fun e w' => ∃ s' : Sl, e = .returned (.tuple #[vS s', .int .i64 c]) ∧ DsV w' s' L ∧ Below w.heap.size w w' := by
  have := lay_s s l st k i o w h
  rwa [hL] at this
theorem again_e {r : Sl} {R : List Rt} {d : Int} {s : Sl} {l : List Ht} {st k kn c : Int} {L : List Dt} (w : World) (hL : againS R d l st k kn = (c, L)) (hr : RsV w r R) (h : HsV w s l) :
    Calls Try.prog 14 #[vS r, .int .i64 d, vS s, .int .i64 st, .int .i64 k, .int .i64 kn] w fun e w' => ∃ s' : Sl, e = .returned (.tuple #[vS s', .int .i64 c]) ∧ DsV w' s' L ∧ Below w.heap.size w w' := by
  have := again_s r R d s l st k kn w hr h
  rwa [hL] at this
theorem places_e {s : Sl} {l : List Dt} (D : List Int) (hD : D.length = 32) {c : Int} {L : List Pt} (w : World) (hL : plcS l = (c, L)) (h : DsV w s l) :
    Calls Try.prog 16 #[vS s, .agg (bV D)] w fun e w' => ∃ s' : Sl, e = .returned (.tuple #[vS s', .int .i64 c]) ∧ PlV D w' s' L ∧ Below w.heap.size w w' := by
  have := places_s s l D hD w h
  rwa [hL] at this
theorem recs_2 : Recs [(0, 0, 5, 2, 3), (0, 0, 9, 2, 2)] := ⟨by decide, fun i hi => by
  have : i = 0 ∨ i = 1 := by simp at hi; omega
  rcases this with rfl | rfl
  · exact ⟨by decide, fun h => by omega⟩
  · exact ⟨by decide, fun _ => by unfold ltK; decide⟩⟩
theorem atS1 : atV [(0, 0, 5, 2, 3), (0, 0, 9, 2, 2)] 0 103 8 = (2, 3, true, 0) := by rw [atV_yes recs_2 (by unfold argOk; omega)]; decide
theorem atS2 : atV [(0, 0, 5, 2, 3), (0, 0, 9, 2, 2)] 1 103 8 = (0, 0, false, 0) := by rw [atV_yes recs_2 (by unfold argOk; omega)]; decide
theorem layS1 : layS [(100, 50, 0, true, true)] 103 10 2 3 = (0, [(2, 8, 0, 0)]) := by decide +kernel
theorem layS2 : layS [(0, 4, 0, true, true), (4, 4, 0, true, true)] 0 8 0 0 = (0, [(0, 4, 0, 0), (4, 4, 0, 1)]) := by decide +kernel
theorem layS3 : layS [(0, 4, 0, true, true), (4, 4, 0, true, true)] 1 8 1 0 = (0, [(0, 4, 0, 0), (4, 4, 0, 1)]) := by decide +kernel
theorem layS4 : layS [(0, 4, 0, true, true), (4, 4, 4, true, true)] 0 8 0 0 = (0, [(0, 8, 0, 0)]) := by decide +kernel
theorem layS5 : layS [(0, 4, 0, true, true), (4, 4, 4, true, false)] 0 8 0 0 = (0, [(0, 4, 0, 0)]) := by decide +kernel
theorem layS6 : layS [] (-1) 8 0 0 = (1, []) := by decide +kernel
theorem agS1 : againS [(0, 0, 5, 2, 3), (0, 0, 9, 2, 2)] 0 [(100, 50, 0, true, true)] 103 10 8 = (0, [(2, 8, 0, 0)]) := by rw [againS_yes (by rw [atS1]) (by rw [atS1]), atS1]; exact layS1
theorem agS2 : againS [(0, 0, 5, 2, 3), (0, 0, 9, 2, 2)] 1 [] 103 10 8 = (251, []) := againS_no (by rw [atS2]) (by rw [atS2])
theorem plS1 : plcS [(2, 8, 0, 0)] = (0, [(1, 0, 2, 8)]) := by decide +kernel
abbrev D7 : List Int := [7, 0, 0, 0, 0, 0, 0, 0, 0, 0, 0, 0, 0, 0, 0, 0, 0, 0, 0, 0, 0, 0, 0, 0, 0, 0, 0, 0, 0, 0, 0, 0]
end Go.Proofs.Ythnhnmmabjmjgaa
