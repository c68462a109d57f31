/- What stays when some blocks are written (layer 4). -/
import Derived.Test.YtbimmahlcceadaaDskOk
namespace Go.Proofs.Ytbimmahlcceadaa
open Go.ChangeShapes Go.WideShapes Go.ChangeAt Go.RowKit
/-- Only blocks from lo to hi may hold something else. -/
structure UpdR (lo hi : Nat) (w w' : World) : Prop where
  size : w.heap.size ≤ w'.heap.size
  far : ∀ q, q < w.heap.size → (q < lo ∨ hi ≤ q) → w'.heap[q]? = w.heap[q]?
theorem UpdR.of_upd1 {lo hi c : Nat} {w w' : World} (u : Upd1 c w w') (h1 : lo ≤ c) (h2 : c < hi) : UpdR lo hi w w' := ⟨u.size, fun q hq hn => u.far q hq (by omega)⟩
theorem UpdR.refl (lo hi : Nat) (w : World) : UpdR lo hi w w := ⟨Nat.le_refl _, fun _ _ _ => rfl⟩
theorem UpdR.setCell {lo hi c i : Nat} {w w' : World} {v : Value} (u : UpdR lo hi w w') (h1 : lo ≤ c) (h2 : c < hi) : UpdR lo hi w (w'.setCell ⟨c, i, none⟩ v) :=
  ⟨by rw [World.size_setCell]; exact u.size, fun q hq hn => (Below.heap_setCell w' ⟨c, i, none⟩ v q (by show q ≠ c; omega)).trans (u.far q hq hn)⟩
theorem UpdR.set4 {lo hi c : Nat} {w : World} {u0 u1 u2 u3 : Value} (h1 : lo ≤ c) (h2 : c < hi) : UpdR lo hi w ((((w.setCell ⟨c, 0, none⟩ u0).setCell ⟨c, 1, none⟩ u1).setCell ⟨c, 2, none⟩ u2).setCell ⟨c, 3, none⟩ u3) :=
  ((((UpdR.refl lo hi w).setCell h1 h2).setCell h1 h2).setCell h1 h2).setCell h1 h2
def SlF (w : World) (lo hi : Nat) (s : Sl) : Prop := ∃ b off, (0 < s.2.2.length → b < lo ∨ hi ≤ b) ∧ RowB w s.1 b off s.2.2.length s.2.2 ∧ (s.1 = none → s.2.1 = 0) ∧ s.2.2.length ≤ s.2.1
theorem SlF.r {w : World} {lo hi : Nat} {s : Sl} (h : SlF w lo hi s) : SlR w s := by
  obtain ⟨b, off, _, h2⟩ := h
  exact ⟨b, off, h2⟩
theorem SlG.f {w : World} {B lo hi : Nat} {s : Sl} (h : SlG w B s) (hB : hi ≤ B) : SlF w lo hi s := by
  obtain ⟨b, off, h1, h2⟩ := h
  exact ⟨b, off, fun _ => .inr (by omega), h2⟩
theorem SlR.f {w0 w : World} {lo hi : Nat} {s : Sl} (h : SlR w0 s) (hb : Below w0.heap.size w0 w) (hB : w0.heap.size ≤ lo) : SlF w lo hi s := by
  obtain ⟨b, off, h1, h2⟩ := h
  exact ⟨b, off, fun h => .inl (by have := h1.old h; omega), h1.below hb (Nat.le_refl _), h2⟩
theorem SlF.below {B lo hi : Nat} {w w' : World} {s : Sl} (h : SlF w lo hi s) (hb : Below B w w') (hB : w.heap.size ≤ B) : SlF w' lo hi s := by
  obtain ⟨b, off, h0, h1, h2⟩ := h
  exact ⟨b, off, h0, h1.below hb hB, h2⟩
theorem SlF.upd {lo hi : Nat} {w w' : World} {s : Sl} (h : SlF w lo hi s) (u : UpdR lo hi w w') : SlF w' lo hi s := by
  obtain ⟨b, off, h0, hR, h2⟩ := h
  refine ⟨b, off, h0, ⟨hR.len, hR.adr, fun hn => Nat.lt_of_lt_of_le (hR.old hn) u.size, fun i hi => ?_⟩, h2⟩
  have c := hR.cel i hi
  unfold World.cell? at c ⊢
  rwa [u.far b (hR.old (by omega)) (h0 (by omega))]
structure SecsF (w : World) (lo hi : Nat) (a : Option Addr) (b off n : Nat) (S : List Sl) : Prop where
  s : Secs w a b off n S
  far : 0 < n → b < lo ∨ hi ≤ b
  row : ∀ i, i < n → SlF w lo hi (nS S i)
theorem SecsF.below {B lo hi : Nat} {w w' : World} {a : Option Addr} {b off n : Nat} {S : List Sl} (h : SecsF w lo hi a b off n S) (hb : Below B w w') (hB : w.heap.size ≤ B) : SecsF w' lo hi a b off n S :=
  ⟨h.s.below hb hB, h.far, fun i hi => (h.row i hi).below hb hB⟩
theorem SecsF.upd {lo hi : Nat} {w w' : World} {a : Option Addr} {b off n : Nat} {S : List Sl} (h : SecsF w lo hi a b off n S) (u : UpdR lo hi w w') : SecsF w' lo hi a b off n S :=
  ⟨⟨h.s.len, h.s.adr, fun hn => Nat.lt_of_lt_of_le (h.s.old hn) u.size, fun i hi => by
    have c := h.s.cel i hi
    unfold World.cell? at c ⊢
    rwa [u.far b (h.s.old (by omega)) (h.far (by omega))], fun i hi => ((h.row i hi).upd u).r⟩, h.far, fun i hi => (h.row i hi).upd u⟩
theorem Secs.f {lo hi : Nat} {w0 w : World} {a : Option Addr} {b off n : Nat} {S : List Sl} (h : Secs w0 a b off n S) (hb : Below w0.heap.size w0 w) (hB : w0.heap.size ≤ lo) : SecsF w lo hi a b off n S :=
  ⟨h.below hb (Nat.le_refl _), fun hn => .inl (by have := h.old hn; omega), fun i hi => (h.row i hi).f hb hB⟩
structure PensF (w : World) (lo hi : Nat) (a : Option Addr) (b off n : Nat) (P : List Wr) : Prop where
  s : Pens w a b off n P
  far : 0 < n → b < lo ∨ hi ≤ b
  row : ∀ i, i < n → SlF w lo hi (nW P i).2
theorem PensF.below {B lo hi : Nat} {w w' : World} {a : Option Addr} {b off n : Nat} {P : List Wr} (h : PensF w lo hi a b off n P) (hb : Below B w w') (hB : w.heap.size ≤ B) : PensF w' lo hi a b off n P :=
  ⟨h.s.below hb hB, h.far, fun i hi => (h.row i hi).below hb hB⟩
theorem PensF.upd {lo hi : Nat} {w w' : World} {a : Option Addr} {b off n : Nat} {P : List Wr} (h : PensF w lo hi a b off n P) (u : UpdR lo hi w w') : PensF w' lo hi a b off n P :=
  ⟨⟨h.s.len, h.s.adr, fun hn => Nat.lt_of_lt_of_le (h.s.old hn) u.size, fun i hi => by
    have c := h.s.at_ i hi
    unfold World.cell? at c ⊢
    rwa [u.far b (h.s.old (by omega)) (h.far (by omega))], fun i hi => by
    have c := h.s.cel i hi
    unfold World.cell? at c ⊢
    rwa [u.far b (h.s.old (by omega)) (h.far (by omega))], fun i hi => ((h.row i hi).upd u).r⟩, h.far, fun i hi => (h.row i hi).upd u⟩
theorem Pens.f {lo hi : Nat} {w0 w : World} {a : Option Addr} {b off n : Nat} {P : List Wr} (h : Pens w0 a b off n P) (hb : Below w0.heap.size w0 w) (hB : w0.heap.size ≤ lo) : PensF w lo hi a b off n P :=
  ⟨h.below hb (Nat.le_refl _), fun hn => .inl (by have := h.old hn; omega), fun i hi => (h.row i hi).f hb hB⟩
theorem pens_nil (w : World) (a : Option Addr) : Pens w a 0 0 0 [] := ⟨rfl, fun h => by omega, fun h => by omega, fun i hi => by omega, fun i hi => by omega, fun i hi => by omega⟩
theorem pensF_nil (w : World) (lo hi : Nat) (a : Option Addr) : PensF w lo hi a 0 0 0 [] := ⟨pens_nil w a, fun h => by omega, fun i hi => by omega⟩
/-- What Write adds. -/
theorem PensF.snoc {lo hi n : Nat} {w w' : World} {a qa : Option Addr} {b off qb : Nat} {P : List Wr} {i : Int} {Y : Sl} (h : PensF w lo hi a b off n P) (hb : Below w.heap.size w w') (hw : hi ≤ w.heap.size) (hq : w.heap.size ≤ qb) (hY : SlG w' w.heap.size Y) (hP : Pens w' qa qb 0 (n + 1) (P ++ [(i, Y)])) : PensF w' lo hi qa qb 0 (n + 1) (P ++ [(i, Y)]) :=
  ⟨hP, fun _ => .inr (by omega), fun k hk => by
    have hl := h.s.len
    by_cases e : k < n
    · rw [nW_app_l (by omega)]
      exact (h.row k e).below hb (Nat.le_refl _)
    · obtain rfl : k = P.length := by omega
      rw [nW_app_r]
      exact hY.f hw⟩
/-- What Sync leaves. -/
theorem secsF_perf {lo hi n pn k : Nat} {w w' : World} {sa pa : Option Addr} {sb so pb po b : Nat} {S : List Sl} {P : List Wr} (hS : SecsF w lo hi sa sb so n S) (hP : PensF w lo hi pa pb po pn P) (hk : k ≤ pn) (hb : Below w.heap.size w w') (hw : hi ≤ w.heap.size) (hB : w.heap.size ≤ b) (h : Secs w' (some ⟨b, 0, none⟩) b 0 n (perfK S P k)) : SecsF w' lo hi (some ⟨b, 0, none⟩) b 0 n (perfK S P k) :=
  ⟨h, fun _ => .inr (by omega), fun i hi' => perfK_row (SlF w' lo hi) (fun i hi => (hS.row i (by have := hS.s.len; omega)).below hb (Nat.le_refl _)) k (fun j hj => (hP.row j (by omega)).below hb (Nat.le_refl _)) i (by have := hS.s.len; omega)⟩
theorem secsF_torn {lo hi n pn k t : Nat} {w w' : World} {sa pa : Option Addr} {sb so pb po b : Nat} {S : List Sl} {P : List Wr} {Y : Sl} (hS : SecsF w lo hi sa sb so n S) (hP : PensF w lo hi pa pb po pn P) (hk : k ≤ pn) (hb : Below w.heap.size w w') (hw : hi ≤ w.heap.size) (hB : w.heap.size ≤ b) (hY : SlG w' w.heap.size Y) (h : Secs w' (some ⟨b, 0, none⟩) b 0 n ((perfK S P k).set t Y)) : SecsF w' lo hi (some ⟨b, 0, none⟩) b 0 n ((perfK S P k).set t Y) :=
  ⟨h, fun _ => .inr (by omega), fun i hi' => nS_setD (SlF w' lo hi) (hY.f hw) (perfK_row (SlF w' lo hi) (fun i hi => (hS.row i (by have := hS.s.len; omega)).below hb (Nat.le_refl _)) k (fun j hj => (hP.row j (by omega)).below hb (Nat.le_refl _)) i (by have := hS.s.len; omega)) (by rw [perfK_len]; have := hS.s.len; omega)⟩
/-- A disk that runs. -/
theorem run_of {S : List Sl} {P : List Wr} {lf : Int} (h1 : 1 ≤ S.length) (h2 : S.length ≤ 4096) (h3 : P.length ≤ 4096) (h4 : -1 ≤ lf) (h5 : lf ≤ 65536) (hs : ∀ i, i < S.length → (nS S i).2.2.length = 128) (hp : ∀ i, i < P.length → okWr S.length (nW P i)) : runB ⟨S, P, lf, false⟩ = true :=
  runB_t ⟨⟨h1, h2, h3, h4, h5⟩, hs, hp⟩ rfl
end Go.Proofs.Ytbimmahlcceadaa
