/- A packet's box of one's own beside links (layer 6). -/
import Derived.Test.YthgbkdaimnejeaaNetFar2
import Derived.Test.YthgbkdaimnejeaaDag
namespace Go.Proofs.Ythgbkdaimnejeaa
open Go.ChangeShapes Go.WideShapes Go.ChangeAt Go.RowKit Go.Sort Go.Shelf

theorem setCell_same {w : World} {b i : Nat} {v : Value} {cs : Array Value} {T : TypeId} {fr : Nat × Nat} (hb : w.heap[b]? = some (.cells cs T fr)) (hv : cs[i]? = some v) : w.setCell ⟨b, i, none⟩ v = w := by
  have he : cs.setIfInBounds i v = cs := by
    apply Array.ext_getElem?
    intro j
    rw [Array.getElem?_setIfInBounds]
    split
    · next h => subst h; split
                · exact hv.symm
                · next h => rw [Array.getElem?_eq_none (by omega)]
    · rfl
  have hm : ∀ f : Obj → Obj, f (.cells cs T fr) = .cells cs T fr → w.heap.modify b f = w.heap := by
    intro f hf
    apply Array.ext_getElem?
    intro j
    rw [Array.getElem?_modify]
    split
    · next h => subst h; rw [hb]; simp [hf]
    · rfl
  unfold World.setCell
  rw [hm _ (by simp [he])]
/-- No byte lies in the block. -/
def NoU8 (w : World) (g : Nat) : Prop := ∀ b o k, w.cell? ⟨b, o, none⟩ = some (.int .u8 k) → b ≠ g
theorem noU8_pk {w : World} {g : Nat} {k0 k1 : Int} {ka : Option Addr} {kn kc : Nat} {t : TypeId} (hg : w.heap[g]? = some (.cells #[.int .i64 k0, .int .i64 k1, .slice ka kn kc] t (0, 0))) : NoU8 w g := by
  intro b o k h e
  subst e
  unfold World.cell? at h
  simp only [hg] at h
  match o with
  | 0 => simp at h
  | 1 => simp at h
  | 2 => simp at h
  | n + 3 => simp at h
theorem Dats.farU {w : World} {p i : Nat} {u : Value} {Q : List Kt} {D : List ByteArray} (h : Dats w Q D) (hp : NoU8 w p) : Dats (w.setCell ⟨p, i, none⟩ u) Q D := ⟨h.len, fun j hj => (h.dat j hj).far hp⟩
theorem PkV.farU {w : World} {p i : Nat} {u : Value} {k : Kt} {m : Pk} (h : PkV w k m) (hp : NoU8 w p) : PkV (w.setCell ⟨p, i, none⟩ u) k m := by
  obtain ⟨S, h1, h2⟩ := h
  exact ⟨S, h1.far hp, h2⟩
/-- Links that have nothing in the block p. -/
structure NetVb (p : Nat) (w : World) (x : Sl × Sl) (L : List Pk) (A : List Qt) : Prop where
  ex : ∃ qb qo Q D pb po, Ks w x.1.1 x.1.2.1 qb qo Q ∧ Dats w Q D ∧ pkL Q D = L ∧ Qs w x.2.1 x.2.2.1 pb po A ∧ (0 < x.1.2.1 → qb ≠ p) ∧ (0 < x.2.2.1 → pb ≠ p)
  q1 : x.1.2.1 ≤ x.1.2.2
  q2 : x.1.2.2 ≤ 9223372036854775807
  q3 : x.1.1 = none → x.1.2.2 = 0
  p2 : x.2.2.1 ≤ 9223372036854775807
theorem NetVb.v {p : Nat} {w : World} {x : Sl × Sl} {L : List Pk} {A : List Qt} (h : NetVb p w x L A) : NetV w x L A := by
  obtain ⟨⟨qb, qo, Q, D, pb, po, h1, h2, h3, h4, _⟩, h5, h6, h7, h8⟩ := h
  exact ⟨⟨qb, qo, Q, D, pb, po, h1, h2, h3, h4⟩, h5, h6, h7, h8⟩
theorem NetV.vb {p : Nat} {w : World} {x : Sl × Sl} {L : List Pk} {A : List Qt} (h : NetV w x L A) (hp : w.heap.size ≤ p) : NetVb p w x L A := by
  obtain ⟨⟨qb, qo, Q, D, pb, po, h1, h2, h3, h4⟩, h5, h6, h7, h8⟩ := h
  exact ⟨⟨qb, qo, Q, D, pb, po, h1, h2, h3, h4, fun h => by have := (h1.2.1 h).2; omega, fun h => by have := (h4.2.1 h).2; omega⟩, h5, h6, h7, h8⟩
theorem NetVb.grown {p : Nat} {w w' : World} {x : Sl × Sl} {L : List Pk} {A : List Qt} (h : NetVb p w x L A) (hb : Below w.heap.size w w') : NetVb p w' x L A := by
  obtain ⟨⟨qb, qo, Q, D, pb, po, h1, h2, h3, h4, h9⟩, h5, h6, h7, h8⟩ := h
  exact ⟨⟨qb, qo, Q, D, pb, po, h1.grown hb, h2.grown hb, h3, h4.grown hb, h9⟩, h5, h6, h7, h8⟩
theorem NetVb.far {p i : Nat} {u : Value} {w : World} {x : Sl × Sl} {L : List Pk} {A : List Qt} (h : NetVb p w x L A) (hp : NoU8 w p) : NetVb p (w.setCell ⟨p, i, none⟩ u) x L A := by
  obtain ⟨⟨qb, qo, Q, D, pb, po, h1, h2, h3, h4, h9, h10⟩, h5, h6, h7, h8⟩ := h
  exact ⟨⟨qb, qo, Q, D, pb, po, h1.far h9, h2.farU hp, h3, h4.far h10, h9, h10⟩, h5, h6, h7, h8⟩
theorem deliver_b (p : Nat) (x : Sl × Sl) (L : List Pk) (A : List Qt) (i : Int) (w : World) (h : NetVb p w x L A) (hp : p < w.heap.size) : Calls Try.prog 20 #[vN x, .int .i64 i] w fun e w' => ∃ (k : Kt) (y : Sl × Sl), e = .returned (.tuple #[vK k, vN y, .int .i64 (askS L A i)]) ∧ PkV w' k (if askS L A i = 0 then delS A (L.getD i.toNat zP) else zP) ∧ NetVb p w' y (loseS L A i).2.1 (loseS L A i).2.2 ∧ Below w.heap.size w w' := by
  have q1 := h.q1; have q2 := h.q2; have q3 := h.q3; have p2 := h.p2
  obtain ⟨⟨qb, qo, Q, D, pb, po, h1, h2, rfl, h4, h9, h10⟩, _⟩ := h
  refine (deliver_any _ _ _ qb qo Q _ _ _ pb po A i w h1 h4 (by omega) p2 q1 q2).mono fun e w' g => ?_
  unfold loseS
  rw [← askC_S h2]
  rcases g with ⟨g, rfl, hb⟩ | ⟨k, v, rfl, g2, g3, rfl, hV, hb⟩
  · rw [if_neg g, if_neg g]
    refine ⟨zK, zN, rfl, PkV.zero w', ⟨⟨0, 0, [], [], 0, 0, Ks.zero w' _, ⟨rfl, fun i hi => by simp at hi⟩, rfl, Qs.zero w' _, fun h => by simp at h, fun h => by simp at h⟩, Nat.le_refl _, by simp, fun _ => rfl, by simp⟩, hb⟩
  · have ha := askC_ok (i := (k : Int)) g3 (by omega)
    rw [if_pos ha, if_pos ha, ha]
    obtain ⟨a, n, c, b, off, rfl, e1, e2, e3, e4, e5⟩ := hV
    have hkn : 0 < x.1.2.1 := by have := h1.1; omega
    refine ⟨_, ((a, n, c), x.2), rfl, ?_, ?_, hb⟩
    · rw [Int.toNat_natCast, getD_pk h2.len g2]
      by_cases hin : prQ (nthK Q k).1 (nthK Q k).2.1 ∈ A
      · rw [delK_t hin]
        unfold delS
        rw [if_pos (show prQ (pk (nthK Q k) (nthD D k)).1 (pk (nthK Q k) (nthD D k)).2.1 ∈ A from hin)]
        exact PkV.zero w'
      · rw [delK_f hin]
        unfold delS
        rw [if_neg (show ¬ prQ (pk (nthK Q k) (nthD D k)).1 (pk (nthK Q k) (nthD D k)).2.1 ∈ A from hin)]
        exact ⟨nthD D k, (h2.dat k g2).grown hb, rfl⟩
    · rw [Int.toNat_natCast, ← pkL_del Q D h2.len]
      refine ⟨⟨b, off, _, _, pb, po, e1, ((h2.tk k).app (h2.dr (k + 1))).grown hb, rfl, h4.grown hb, fun h => ?_, h10⟩, e3, e4, e2, p2⟩
      rcases e5 h with e | e
      · rw [e]; exact h9 hkn
      · omega
end Go.Proofs.Ythgbkdaimnejeaa
