/- Gestures in memory (layer 12), and what they mean. -/
import Derived.Test.YtmblkmllamccnaaCrvValues
import Derived.Test.YtmblkmllamccnaaSK
namespace Go.Proofs.Ytmblkmllamccnaa
open Go.ChangeShapes Go.WideShapes Go.ChangeAt Go.RowKit

/-- A gesture: its numbers, its slice of knots, and where the knots lie. -/
structure Gt where
  m : Int
  f : Int
  t : Int
  u : Int
  ka : Option Addr
  kn : Nat
  kc : Nat
  kb : Nat
  ko : Nat
  ks : List Kt
def g0 : Gt := ⟨0, 0, 0, 0, none, 0, 0, 0, 0, []⟩
def nthG (l : List Gt) (i : Nat) : Gt := l.getD i g0
def encG (g : Gt) : Value := .agg #[.int .i64 g.m, .int .i64 g.f, .int .i64 g.t, .int .i64 g.u, .slice g.ka g.kn g.kc]
/-- Where a gesture's knots lie. -/
structure GK (w : World) (g : Gt) : Prop where
  ks : Ks w g.ka g.kn g.kb g.ko g.ks
  n9 : g.kn ≤ 9223372036854775807
  nc : g.ka = none → g.kc = 0
  lc : g.kn ≤ g.kc
theorem GK.grown {w w' : World} {g : Gt} (h : GK w g) (hb : Below w.heap.size w w') : GK w' g := ⟨h.ks.grown hb, h.n9, h.nc, h.lc⟩
theorem GK.below {B : Nat} {w w' : World} {g : Gt} (h : GK w g) (hb : Below B w w') (hB : w.heap.size ≤ B) : GK w' g := h.grown (hb.mono hB)
/-- The slice leads to the gestures l. -/
def Gs (w : World) (a : Option Addr) (n : Nat) (b off : Nat) (l : List Gt) : Prop :=
  l.length = n ∧ (0 < n → a = some ⟨b, off, none⟩ ∧ b < w.heap.size) ∧
  ∀ i, i < n → (w.cell? ⟨b, off + i * 5, none⟩ = some (.int .i64 (nthG l i).m) ∧ w.cell? ⟨b, off + i * 5 + 1, none⟩ = some (.int .i64 (nthG l i).f) ∧ w.cell? ⟨b, off + i * 5 + 2, none⟩ = some (.int .i64 (nthG l i).t) ∧ w.cell? ⟨b, off + i * 5 + 3, none⟩ = some (.int .i64 (nthG l i).u) ∧ w.cell? ⟨b, off + i * 5 + 4, none⟩ = some (.slice (nthG l i).ka (nthG l i).kn (nthG l i).kc)) ∧ GK w (nthG l i)
theorem Gs.grown {w w' : World} {a : Option Addr} {n b off : Nat} {l : List Gt} (h : Gs w a n b off l) (hb : Below w.heap.size w w') : Gs w' a n b off l := by
  refine ⟨h.1, fun k => ⟨(h.2.1 k).1, Nat.lt_of_lt_of_le (h.2.1 k).2 hb.size⟩, fun i hi => ?_⟩
  have hB := (h.2.1 (by omega)).2
  obtain ⟨⟨h0, h1, h2, h3, h4⟩, h5⟩ := h.2.2 i hi
  exact ⟨⟨(hb.cell (p := ⟨b, _, none⟩) hB).trans h0, (hb.cell (p := ⟨b, _, none⟩) hB).trans h1, (hb.cell (p := ⟨b, _, none⟩) hB).trans h2, (hb.cell (p := ⟨b, _, none⟩) hB).trans h3, (hb.cell (p := ⟨b, _, none⟩) hB).trans h4⟩, h5.grown hb⟩
theorem Gs.below {B : Nat} {w w' : World} {a : Option Addr} {n b off : Nat} {l : List Gt} (h : Gs w a n b off l) (hb : Below B w w') (hB : w.heap.size ≤ B) : Gs w' a n b off l := h.grown (hb.mono hB)
theorem nthG_take {l : List Gt} {k i : Nat} (h : i < k) : nthG (l.take k) i = nthG l i := by simp [nthG, List.getD_eq_getElem?_getD, h]
theorem nthG_drop {l : List Gt} {k i : Nat} : nthG (l.drop k) i = nthG l (k + i) := by simp [nthG, List.getD_eq_getElem?_getD]
theorem Gs.pre {w : World} {a : Option Addr} {n b off : Nat} {l : List Gt} (h : Gs w a n b off l) {k : Nat} (hk : k ≤ n) : Gs w a k b off (l.take k) :=
  ⟨by have := h.1; simp; omega, fun h0 => h.2.1 (by omega), fun i hi => by rw [nthG_take hi]; exact h.2.2 i (by omega)⟩
theorem Gs.post {w : World} {a : Option Addr} {n b off : Nat} {l : List Gt} (h : Gs w a n b off l) {k cap : Nat} (hk : k ≤ n) (hc : n ≤ cap) (hn : a = none → cap = 0) :
    ∃ b3 o3, Gs w (if cap = k then a else a.map (·.add (k * 5))) (n - k) b3 o3 (l.drop k) ∧ ((if cap = k then a else a.map (·.add (k * 5))) = none → cap - k = 0) := by
  have hz : (if cap = k then a else a.map (·.add (k * 5))) = none → cap - k = 0 := by
    intro e
    by_cases hck : cap = k
    · omega
    · rw [if_neg hck] at e
      cases a with
      | none => have := hn rfl; omega
      | some x => cases e
  by_cases h0 : k < n
  · obtain ⟨rfl, hb⟩ := h.2.1 (by omega)
    refine ⟨b, off + k * 5, ⟨by have := h.1; simp; omega, fun _ => ⟨?_, hb⟩, fun i hi => ?_⟩, hz⟩
    · rw [if_neg (by omega)]
      simp [Addr.add]
    · rw [nthG_drop]
      have := h.2.2 (k + i) (by omega)
      rw [show off + k * 5 + i * 5 = off + (k + i) * 5 by omega]
      exact this
  · exact ⟨0, 0, ⟨by have := h.1; simp; omega, fun h1 => by omega, fun i hi => by omega⟩, hz⟩

/-- A gesture is right. -/
def okG (g : Gt) : Prop := (1 ≤ g.m ∧ g.m ≤ 3) ∧ 0 ≤ g.f ∧ g.f < g.t ∧ g.t ≤ g.u ∧ g.u ≤ 1099511627776 ∧ (g.m = 2 ∨ g.u = g.t) ∧ 0 < g.kn ∧ Curve g.ks
def okGs (l : List Gt) (k : Nat) : Prop := ∀ i, i < k → okG (nthG l i)
theorem okGs_succ (l : List Gt) (k : Nat) : okGs l (k + 1) ↔ okGs l k ∧ okG (nthG l k) := by
  refine ⟨fun h => ⟨fun i hi => h i (by omega), h k (by omega)⟩, fun h i hi => ?_⟩
  by_cases e : i = k
  · subst e; exact h.2
  · exact h.1 i (by omega)
def Ges (l : List Gt) : Prop := l.length ≤ 64 ∧ okGs l l.length
noncomputable def chkG (l : List Gt) : Int := by classical exact if Ges l then 0 else 120
theorem chkG_yes {l : List Gt} (h : Ges l) : chkG l = 0 := if_pos h
theorem chkG_no {l : List Gt} (h : ¬ Ges l) : chkG l = 120 := if_neg h
noncomputable def okGB (g : Gt) : Bool := by classical exact decide (okG g)
theorem okGB_t {g : Gt} (h : okG g) : okGB g = true := by unfold okGB; simpa using h
theorem okGB_f {g : Gt} (h : ¬ okG g) : okGB g = false := by unfold okGB; simpa using h

/-- What a gesture's mode makes of a value and of its curve's. -/
def chg (m v c : Int) : Int := if m = 3 then clip (v + c) else c
def made (v : Int) (g : Gt) (p : Int) : Int := if g.f ≤ p ∧ p < g.u then chg g.m v (valC g.ks (min p (g.t - 1))) else v
def allG (v : Int) (l : List Gt) (p : Int) : Int := l.foldl (fun v g => made v g p) v
theorem allG_snoc (v : Int) (l : List Gt) (g : Gt) (p : Int) : allG v (l ++ [g]) p = made (allG v l p) g p := by unfold allG; rw [List.foldl_append]; rfl
theorem takeG_succ {l : List Gt} {k : Nat} (h : k < l.length) : l.take (k + 1) = l.take k ++ [nthG l k] := by
  rw [List.take_succ_eq_append_getElem h]
  simp [nthG, List.getD_eq_getElem?_getD, h]
end Go.Proofs.Ytmblkmllamccnaa
