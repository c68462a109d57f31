/- NetworkOnlySent: what its loop keeps (layer 6). -/
import Derived.Test.YthgbkdaimnejeaaNetSep
namespace Go.Proofs.Ythgbkdaimnejeaa
open Go.ChangeShapes Go.WideShapes Go.ChangeAt Go.RowKit Go.Sort Go.Shelf

theorem KsO.ownE {w : World} {B : Nat} {v : Value} {l : List Kt} (h : KsO w B v l) : v.ownBlock = none ∨ ∃ q, v.ownBlock = some q ∧ B ≤ q ∧ q < w.heap.size := by
  rcases h.2 with ⟨h0, _⟩ | ⟨q, cap, cur, h1, h2, h3, h4⟩
  · left; rw [h0]; rfl
  · right; exact ⟨q, by rw [h1]; rfl, h2, (Array.getElem?_eq_some_iff.1 h3).1⟩
theorem chk0 (x : Sl × Sl) (L : List Pk) (A : List Qt) (w : World) (h : NetV w x L A) (hN : NOk L A) : Calls Try.prog 13 #[vN x] w fun e w' => e = .returned (.int .i64 0) ∧ Below w.heap.size w w' := by
  have := check_s x L A w h
  rwa [chkS_yes hN] at this
theorem datR_lt {w : World} {s : Sl} {D : ByteArray} (h : DatR w s D) : ∀ ad, s.1 = some ad → 0 < s.2.1 → ad.block < w.heap.size := fun ad e1 e2 => by
  obtain ⟨b, off, l, hR, _⟩ := h
  have h0 := hR.adr e2
  rw [e1] at h0
  cases h0
  exact hR.old e2
theorem dats_lt {w : World} {Q : List Kt} {D : List ByteArray} (h : Dats w Q D) {k : Kt} (hk : k ∈ Q) : ∀ ad, k.2.2.1 = some ad → 0 < k.2.2.2.1 → ad.block < w.heap.size := by
  obtain ⟨i, hi, rfl⟩ := List.mem_iff_getElem.1 hk
  have e : nthK Q i = Q[i] := by unfold nthK; rw [List.getD_eq_getElem?_getD, List.getElem?_eq_getElem hi]; rfl
  rw [← e]
  exact datR_lt (h.dat i hi)
theorem avQ_more {P : Nat → Prop} {w : World} {Q : List Kt} {D : List ByteArray} (h : Dats w Q D) (hA : AvQ P Q) {p : Nat} (hp : w.heap.size ≤ p) : AvQ (fun b => P b ∨ b = p) Q := fun k hk => (hA k hk).or fun ad e1 e2 e3 => by
  have := dats_lt h hk ad e1 e2
  omega
theorem mem_pkL {S : List Kt} {DS : List ByteArray} (h : DS.length = S.length) {m : Pk} (hm : m ∈ pkL S DS) : ∃ i, i < S.length ∧ pk (nthK S i) (nthD DS i) = m := by
  obtain ⟨i, hi, e⟩ := List.mem_iff_getElem.1 hm
  rw [pkL_len h] at hi
  refine ⟨i, hi, ?_⟩
  have := pkL_at h hi
  rw [List.getElem?_eq_getElem (by rw [pkL_len h]; exact hi), e] at this
  exact (Option.some.inj this).symm
/-- What the loop keeps: the packets sent so far, and the links. -/
structure OnR (w : World) (X cn : Nat) (s : Value) (S : List Kt) (DS : List ByteArray) (PP : Nat → Prop) (x : Sl × Sl) (L : List Pk) (A : List Qt) (W : World) : Prop where
  ks : KsO W (X + 1) s S
  ds : Dats W S DS
  own : ∀ b, s.ownBlock = some b → PP b
  lt : ∀ b, PP b → b < W.heap.size
  av : AvQ PP S
  nv : NetVP PP W x L A
  inn : ∀ p ∈ L, p ∈ pkL S DS
  ac : A ≠ [] → 0 < cn
  low : Below w.heap.size w W
section
variable {w W W' : World} {X cn : Nat} {s : Value} {S : List Kt} {DS : List ByteArray} {PP : Nat → Prop} {x : Sl × Sl} {L : List Pk} {A : List Qt}
theorem OnR.grown (h : OnR w X cn s S DS PP x L A W) (hb : Below W.heap.size W W') : OnR w X cn s S DS PP x L A W' :=
  ⟨h.ks.below hb (Nat.le_refl _), h.ds.grown hb, h.own, fun b g => Nat.lt_of_lt_of_le (h.lt b g) hb.size, h.av, h.nv.grown hb, h.inn, h.ac, below_after h.low hb h.low.size⟩
theorem OnR.cuts (h : OnR w X cn s S DS PP x L A W) (c2 : Nat) (hc : 0 < cn → 0 < c2) : OnR w X c2 s S DS PP x L A W :=
  ⟨h.ks, h.ds, h.own, h.lt, h.av, h.nv, h.inn, fun g => hc (h.ac g), h.low⟩
theorem OnR.box {a b c d e f a' b' c' d' e' f' : _} (h : OnR w X cn s S DS PP x L A W) (hg : W.heap[X]? = some (.cells #[.slice a b c, .slice d e f] 25 (0, 0))) (hw : w.heap.size ≤ X) : OnR w X cn s S DS PP x L A ((W.setCell ⟨X, 0, none⟩ (.slice a' b' c')).setCell ⟨X, 1, none⟩ (.slice d' e' f')) :=
  ⟨h.ks.box hg, (h.ds.farU fun b o k hk => noInt_box hg b o _ k hk).farU fun b o k hk => noInt_box (cells_setQ hg) b o _ k hk, h.own, fun b g => by rw [World.size_setCell, World.size_setCell]; exact h.lt b g, h.av, h.nv.box hg, h.inn, h.ac, boxQ_below hw h.low⟩
theorem samePk_b (k0 k1 : Int) (ka : Option Addr) (kn kc : Nat) (y0 y1 : Int) (ya : Option Addr) (yn yc : Nat) (m m' : Pk) (b : Bool) (hb : decide (m = m') = b) (w : World) (h : PkV w (k0, k1, ka, kn, kc) m) (h' : PkV w (y0, y1, ya, yn, yc) m') : Calls Try.prog 22 #[.agg #[.int .i64 k0, .int .i64 k1, .slice ka kn kc], .agg #[.int .i64 y0, .int .i64 y1, .slice ya yn yc]] w fun e w' => e = .returned (.bool b) ∧ Below w.heap.size w w' := by
  have := samePk_s _ _ m m' w h h'
  rwa [hb] at this
/-- One more sent. -/
theorem OnR.app {x1 : Sl × Sl} {A' : List Qt} {p : Pk} {k : Kt} {D : ByteArray} {o : Obj} {w2 : World} {g' cap : Nat} {v2 : Value}
    (ks : KsO W (X + 1) s S) (ds : Dats W S DS) (own : ∀ b, s.ownBlock = some b → PP b) (lt : ∀ b, PP b → b < W.heap.size) (av : AvQ PP S)
    (nv : NetVP PP W x1 (L ++ [p]) A') (inn : ∀ q ∈ L, q ∈ pkL S DS) (ac : A' ≠ [] → 0 < cn) (low : Below w.heap.size w W) (hwX : w.heap.size ≤ X)
    (hd : DatR W k.2.2 D) (hk : AvS PP k.2.2) (hp : pk k D = p)
    (hv2 : v2 = .slice (some ⟨g', 0, none⟩) (S.length + 1) cap) (hO : KsO w2 (X + 1) v2 (S ++ [k])) (hs : some g' = s.ownBlock ∨ (W.alloc o).heap.size ≤ g') (hg : (W.alloc o).grownBy w2 s.ownBlock) :
    (∃ P', OnR w X cn v2 (S ++ [k]) (DS ++ [D]) P' x1 (L ++ [p]) A' w2) ∧ ∀ q, q < W.heap.size → some q ≠ s.ownBlock → w2.heap[q]? = W.heap[q]? := by
  have hbA : Below W.heap.size W (W.alloc o) := (Below.refl _ _).alloc (Nat.le_refl _) o
  have hz : W.heap.size + 1 = (W.alloc o).heap.size := by rw [World.size_alloc]
  have hz2 := hg.size
  have hds : Dats w2 (S ++ [k]) (DS ++ [D]) := ((ds.grown hbA).keep hg av own).app (Dats.one ((hd.grown hbA).keep hg fun ad e1 e2 e3 => hk ad e1 e2 (own _ e3.symm)))
  have hin : ∀ q ∈ L ++ [p], q ∈ pkL (S ++ [k]) (DS ++ [D]) := fun q hq => by
    rw [pkL_app ds.len]
    rcases List.mem_append.1 hq with h | h
    · exact List.mem_append.2 (.inl (inn q h))
    · refine List.mem_append.2 (.inr ?_)
      rw [List.mem_singleton.1 h, ← hp]
      exact List.mem_singleton.2 rfl
  have hnv := (nv.grown hbA).keep hg own
  have hlow : Below w.heap.size w w2 := by
    refine (low.alloc low.size o).grown hg (by rw [← hz]; have := low.size; omega) fun k hk => ?_
    rcases ks.ownE with h | ⟨q, h, h1, h2⟩
    · cases hk.symm.trans h
    · cases hk.symm.trans h
      omega
  have hgl : g' < w2.heap.size := by
    rcases hO.ownE with h | ⟨q, h, h1, h2⟩
    · rw [hv2] at h; cases h
    · rw [hv2] at h; cases h; exact h2
  have e2 : ∀ b, v2.ownBlock = some b → b = g' := fun b hb => by rw [hv2] at hb; cases hb; rfl
  refine ⟨?_, fun q hq hne => (hg.block q (by omega) hne).trans (hbA.block q hq)⟩
  rcases hs with hs | hs
  · exact ⟨PP, hO, hds, fun b hb => by rw [e2 b hb]; exact own _ hs.symm, fun b hb => by have := lt b hb; omega, av.app (AvQ.one hk), hnv, hin, ac, hlow⟩
  · refine ⟨fun b => PP b ∨ b = g', hO, hds, fun b hb => .inr (e2 b hb), fun b hb => ?_, (avQ_more ds av (by omega)).app (AvQ.one (hk.or fun ad e1 e3 e4 => ?_)), ?_, hin, ac, hlow⟩
    · rcases hb with hb | hb
      · have := lt b hb; omega
      · omega
    · have := datR_lt hd ad e1 e3
      omega
    · exact ((nv.more (p := g') (by omega)).grown hbA).keep hg fun b hb => .inl (own b hb)
/-- The last packet of links that aren't empty. -/
theorem netVP_last {P : Nat → Prop} {a1 : Option Addr} {n1 c1 : Nat} {y : Sl} {p : Pk} (h : NetVP P w ((a1, n1, c1), y) (L ++ [p]) A) :
    ∃ J b off k0 k1 ka kn kc D, J = L.length ∧ a1 = some ⟨b, off, none⟩ ∧ n1 = J + 1 ∧ DatR w (ka, kn, kc) D ∧ AvS P (ka, kn, kc) ∧ pk (k0, k1, ka, kn, kc) D = p ∧ w.cell? ⟨b, off + J * 3, none⟩ = some (.int .i64 k0) ∧ w.cell? ⟨b, off + J * 3 + 1, none⟩ = some (.int .i64 k1) ∧ w.cell? ⟨b, off + J * 3 + 2, none⟩ = some (.slice ka kn kc) := by
  have hl := h.v.lenQ
  obtain ⟨⟨qb, qo, Q, D, pb, po, h1, h2, h3, h4, h9⟩, s1, s2, h5, h6, h7, h8⟩ := h
  dsimp only at *
  rw [List.length_append] at hl
  have hl : n1 = L.length + 1 := hl
  have hq : L.length < Q.length := by have := h1.1; omega
  obtain ⟨c0, c1, c2⟩ := h1.2.2 L.length (by omega)
  have hm := pkL_at h2.len hq
  rw [h3, List.getElem?_append_right (Nat.le_refl _), Nat.sub_self] at hm
  refine ⟨L.length, qb, qo, (nthK Q L.length).1, (nthK Q L.length).2.1, (nthK Q L.length).2.2.1, (nthK Q L.length).2.2.2.1, (nthK Q L.length).2.2.2.2, nthD D L.length, rfl, (h1.2.1 (by omega)).1, hl, h2.dat _ hq, h9.nth hq, ?_, c0, c1, c2⟩
  simpa using hm.symm
end
end Go.Proofs.Ythgbkdaimnejeaa
