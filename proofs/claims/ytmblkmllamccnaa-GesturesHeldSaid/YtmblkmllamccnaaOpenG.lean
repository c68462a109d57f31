/- An argument that is a slice of gestures, or one by value, as the walks take it. -/
import Derived.Test.YtmblkmllamccnaaOpenSK
import Derived.Test.YtmblkmllamccnaaGes
namespace Go.Proofs.Ytmblkmllamccnaa
open Go.ChangeShapes Go.WideShapes Go.ChangeAt Go.RowKit Go.Deep

variable {H : Type} {enc : TypeId × Value → H} {P : Program} {w : World} {base : Nat} {spare : Nat → Bool} {held : Bool}
/-- One gesture that is open. -/
def HasG (w : World) (g : Gt) : Prop := LiesK w g.ka g.kn g.kc g.ks
theorem gk_of {w : World} {g : Gt} (h : HasG w g) : ∃ kb ko, GK w { g with kb := kb, ko := ko } := by
  obtain ⟨b, off, h1, _, h2, h3, h4, _⟩ := liesK_of h
  exact ⟨b, off, h1, h2, h3, h4⟩
theorem open_slotG {t e : TypeId} {f0 f1 f2 f3 f4 : Field} {n : Nat} {v : Value} {x : DataW H × List MemPlace} (ht : P.underlying t = some (.slice e)) (he : P.underlying e = some (.struct #[f0, f1, f2, f3, f4]))
    (hone : oneCellFields P #[f0, f1, f2, f3, f4] = true) (hC : P.cellsOf e = 5) (k0 : P.underlying f0.type = some (.int .i64)) (k1 : P.underlying f1.type = some (.int .i64)) (k2 : P.underlying f2.type = some (.int .i64)) (k3 : P.underlying f3.type = some (.int .i64)) (k4 : P.underlying f4.type = some (.int .i64))
    (h : DataW.trod enc P w base spare held n t [v] = some x) : ∃ a len cap l, v = .slice a len cap ∧ LiesK w a len cap l := by
  have hv : ∃ a len cap, v = .slice a len cap := by
    rcases open_slice ht h with ⟨h0, _⟩ | ⟨ad, n, c, m, q, D, Pl, hcs, _⟩
    · simp only [List.cons.injEq, and_true] at h0
      exact ⟨_, _, _, h0⟩
    · simp only [List.cons.injEq, and_true] at hcs
      exact ⟨_, _, _, hcs⟩
  obtain ⟨a, len, cap, rfl⟩ := hv
  obtain ⟨l, hl⟩ := open_liesK ht he hone hC k0 k1 k2 k3 k4 h
  exact ⟨a, len, cap, l, rfl, hl⟩
/-- What lies at the places of the elements. -/
def LiesG (w : World) (a : Option Addr) (len cap : Nat) (l : List Gt) : Prop :=
  (a = none ∧ len = 0 ∧ cap = 0 ∧ l = []) ∨ ∃ x, a = some x ∧ len ≤ cap ∧ cap ≤ maxLen ∧ l.length = len ∧ ∀ i, i < len → (w.cell? (x.add (i * 5)) = some (.int .i64 (nthG l i).m) ∧ w.cell? (x.add (i * 5 + 1)) = some (.int .i64 (nthG l i).f) ∧ w.cell? (x.add (i * 5 + 2)) = some (.int .i64 (nthG l i).t) ∧ w.cell? (x.add (i * 5 + 3)) = some (.int .i64 (nthG l i).u) ∧ w.cell? (x.add (i * 5 + 4)) = some (.slice (nthG l i).ka (nthG l i).kn (nthG l i).kc)) ∧ GK w (nthG l i)
theorem open_liesG {t e tk ek : TypeId} {f0 f1 f2 f3 f4 q0 q1 q2 q3 q4 : Field} {fuel len cap : Nat} {a : Option Addr} {x : DataW H × List MemPlace} (ht : P.underlying t = some (.slice e)) (he : P.underlying e = some (.struct #[f0, f1, f2, f3, f4]))
    (hone : oneCellFields P #[f0, f1, f2, f3, f4] = true) (hC : P.cellsOf e = 5) (k0 : P.underlying f0.type = some (.int .i64)) (k1 : P.underlying f1.type = some (.int .i64)) (k2 : P.underlying f2.type = some (.int .i64)) (k3 : P.underlying f3.type = some (.int .i64)) (k4 : f4.type = tk)
    (htk : P.underlying tk = some (.slice ek)) (hek : P.underlying ek = some (.struct #[q0, q1, q2, q3, q4])) (honek : oneCellFields P #[q0, q1, q2, q3, q4] = true) (hCk : P.cellsOf ek = 5) (j0 : P.underlying q0.type = some (.int .i64)) (j1 : P.underlying q1.type = some (.int .i64)) (j2 : P.underlying q2.type = some (.int .i64)) (j3 : P.underlying q3.type = some (.int .i64)) (j4 : P.underlying q4.type = some (.int .i64))
    (h : DataW.trod enc P w base spare held fuel t [.slice a len cap] = some x) : ∃ l, LiesG w a len cap l := by
  subst k4
  rcases open_slice ht h with ⟨h0, _⟩ | ⟨ad, n, c, m, q, D, Pl, hcs, _, hl, hm, hmm, _, hi⟩
  · simp only [List.cons.injEq, Value.slice.injEq, and_true] at h0
    obtain ⟨rfl, rfl, rfl⟩ := h0
    exact ⟨[], .inl ⟨rfl, rfl, rfl, rfl⟩⟩
  · simp only [List.cons.injEq, Value.slice.injEq, and_true] at hcs
    obtain ⟨rfl, rfl, rfl⟩ := hcs
    have key : ∀ i, ∃ y : Gt, i < len → (w.cell? (ad.add (i * 5)) = some (.int .i64 y.m) ∧ w.cell? (ad.add (i * 5 + 1)) = some (.int .i64 y.f) ∧ w.cell? (ad.add (i * 5 + 2)) = some (.int .i64 y.t) ∧ w.cell? (ad.add (i * 5 + 3)) = some (.int .i64 y.u) ∧ w.cell? (ad.add (i * 5 + 4)) = some (.slice y.ka y.kn y.kc)) ∧ GK w y := by
      intro i
      by_cases hil : i < len
      · obtain ⟨cs', hc, ht'⟩ := hi i (by rw [hmm]; split <;> omega)
        rw [hC] at hc
        obtain ⟨_, hcl, hat⟩ := World.cells?_some hc
        obtain ⟨y0, y1, y2, y3, y4, n', _, _, g0, g1, g2, g3, g4⟩ := trod_K he ht'
        obtain ⟨o0, s0⟩ := hone_of hone 0 f0 rfl
        obtain ⟨o1, s1⟩ := hone_of hone 1 f1 rfl
        obtain ⟨o2, s2⟩ := hone_of hone 2 f2 rfl
        obtain ⟨o3, s3⟩ := hone_of hone 3 f3 rfl
        obtain ⟨o4, s4⟩ := hone_of hone 4 f4 rfl
        match cs', hcl with
        | [v0, v1, v2, v3, v4], _ =>
          rw [o0, s0] at g0
          rw [o1, s1] at g1
          rw [o2, s2] at g2
          rw [o3, s3] at g3
          rw [o4, s4] at g4
          obtain ⟨a0, e0, _, _⟩ := DataW.trod_int k0 g0
          obtain ⟨a1, e1, _, _⟩ := DataW.trod_int k1 g1
          obtain ⟨a2, e2, _, _⟩ := DataW.trod_int k2 g2
          obtain ⟨a3, e3, _, _⟩ := DataW.trod_int k3 g3
          have g4' : DataW.trod enc P w base spare held n' f4.type [v4] = some y4 := by simpa using g4
          obtain ⟨ka, kn, kc, ks, hv4, hK⟩ := open_slotG htk hek honek hCk j0 j1 j2 j3 j4 g4'
          simp at e0 e1 e2 e3
          subst e0 e1 e2 e3 hv4
          obtain ⟨kb, ko, hg⟩ := gk_of (g := ⟨a0, a1, a2, a3, ka, kn, kc, 0, 0, ks⟩) hK
          have c0 := hat 0 (by omega); have c1 := hat 1 (by omega); have c2 := hat 2 (by omega); have c3 := hat 3 (by omega); have c4 := hat 4 (by omega)
          rw [Go.Deep.add_add] at c0 c1 c2 c3 c4
          exact ⟨⟨a0, a1, a2, a3, ka, kn, kc, kb, ko, ks⟩, fun _ => ⟨⟨by simpa using c0, by simpa using c1, by simpa using c2, by simpa using c3, by simpa using c4⟩, hg⟩⟩
      · exact ⟨g0, fun h => absurd h hil⟩
    obtain ⟨f, hf⟩ := Classical.axiomOfChoice key
    refine ⟨(List.range len).map f, .inr ⟨ad, rfl, hl, hm, by simp, fun i hil => ?_⟩⟩
    have e : nthG ((List.range len).map f) i = f i := by
      unfold nthG
      simp [List.getD_eq_getElem?_getD, hil]
    rw [e]
    exact hf i hil
theorem liesG_of {w : World} {a : Option Addr} {len cap : Nat} {l : List Gt} (h : LiesG w a len cap l) : ∃ b off, Gs w a len b off l ∧ (0 < len → ∃ c tb fr, w.heap[b]? = some (.cells c tb fr)) ∧ len ≤ 9223372036854775807 ∧ (a = none → cap = 0) ∧ len ≤ cap ∧ cap ≤ 9223372036854775807 := by
  rcases h with ⟨rfl, rfl, rfl, rfl⟩ | ⟨x, rfl, hl, hm, hz, hc⟩
  · exact ⟨0, 0, ⟨rfl, fun h => by omega, fun i hi => by omega⟩, fun h => by omega, by omega, fun _ => rfl, by omega, by omega⟩
  · unfold maxLen at hm
    by_cases h0 : 0 < len
    · obtain ⟨b, off, spot⟩ := x
      have hspot : spot = none := by simpa [Addr.add] using World.cell?_spot (hc 0 h0).1.1
      subst hspot
      have hbw : b < w.heap.size := by have := World.block_lt_of_cell? w _ (hc 0 h0).1.1; simpa [Addr.add] using this
      refine ⟨b, off, ⟨hz, fun _ => ⟨rfl, hbw⟩, fun i hi => ?_⟩, fun _ => ?_, by omega, fun h => (by cases h), hl, by omega⟩
      · obtain ⟨⟨c0, c1, c2, c3, c4⟩, hg⟩ := hc i hi
        rw [Go.WideShapes.add_plain] at c0 c1 c2 c3 c4
        exact ⟨⟨c0, by rw [Nat.add_assoc]; exact c1, by rw [Nat.add_assoc]; exact c2, by rw [Nat.add_assoc]; exact c3, by rw [Nat.add_assoc]; exact c4⟩, hg⟩
      · have h1 := (hc 0 h0).1.1
        rw [Go.WideShapes.add_plain] at h1
        unfold World.cell? at h1
        dsimp only at h1
        split at h1
        · rename_i c tb fr heq
          exact ⟨c, tb, fr, heq⟩
        · cases h1
    · obtain rfl : len = 0 := by omega
      exact ⟨0, 0, ⟨hz, fun h => by omega, fun i hi => by omega⟩, fun h => by omega, by omega, fun h => (by cases h), by omega, by omega⟩
end Go.Proofs.Ytmblkmllamccnaa
