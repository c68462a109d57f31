/- Disks: slices of slices of bytes, and writes, in memory (layer 4). -/
import Derived.Test.YtbimmahlcceadaaBase
import Derived.Test.YtbimmahlcceadaaOwnB
import Derived.Deep.Cut
import Derived.StillTailTactics
namespace Go.Proofs.Ytbimmahlcceadaa
open Go.ChangeShapes Go.WideShapes Go.ChangeAt Go.RowKit
theorem wrap_id {x : Int} (h : -9223372036854775808 ≤ x ∧ x ≤ 9223372036854775807) : IntKind.i64.wrap x = x := by rw [IntKind.wrap_i64]; omega
theorem blk_lt {w : World} {b : Nat} {X : Obj} (h : w.heap[b]? = some X) : b < w.heap.size := (Array.getElem?_eq_some_iff.1 h).1
/-- A slice of bytes: where it lies, its capacity, what it holds. -/
abbrev Sl := Option Addr × Nat × List Int
def slV (s : Sl) : Value := .slice s.1 s.2.2.length s.2.1
def SlR (w : World) (s : Sl) : Prop := ∃ b off, RowB w s.1 b off s.2.2.length s.2.2 ∧ (s.1 = none → s.2.1 = 0) ∧ s.2.2.length ≤ s.2.1
def nS (S : List Sl) (i : Nat) : Sl := S.getD i (none, 0, [])
theorem SlR.below {B : Nat} {w w' : World} {s : Sl} (h : SlR w s) (hb : Below B w w') (hB : w.heap.size ≤ B) : SlR w' s := by
  obtain ⟨b, off, h1, h2⟩ := h
  exact ⟨b, off, h1.below hb hB, h2⟩
/-- Sectors in memory. -/
structure Secs (w : World) (a : Option Addr) (b off n : Nat) (S : List Sl) : Prop where
  len : S.length = n
  adr : 0 < n → a = some ⟨b, off, none⟩
  old : 0 < n → b < w.heap.size
  cel : ∀ i, i < n → w.cell? ⟨b, off + i, none⟩ = some (slV (nS S i))
  row : ∀ i, i < n → SlR w (nS S i)
theorem Secs.below {B : Nat} {w w' : World} {a : Option Addr} {b off n : Nat} {S : List Sl} (h : Secs w a b off n S) (hb : Below B w w') (hB : w.heap.size ≤ B) : Secs w' a b off n S :=
  ⟨h.len, h.adr, fun hn => Nat.lt_of_lt_of_le (h.old hn) hb.size, fun i hi => (hb.cell (p := ⟨b, off + i, none⟩) (Nat.lt_of_lt_of_le (h.old (by omega)) hB)).trans (h.cel i hi), fun i hi => (h.row i hi).below hb hB⟩
/-- A write: the sector, and what is written. -/
abbrev Wr := Int × Sl
def nW (P : List Wr) (i : Nat) : Wr := P.getD i (0, none, 0, [])
/-- Writes in memory. -/
structure Pens (w : World) (a : Option Addr) (b off n : Nat) (P : List Wr) : Prop where
  len : P.length = n
  adr : 0 < n → a = some ⟨b, off, none⟩
  old : 0 < n → b < w.heap.size
  at_ : ∀ i, i < n → w.cell? ⟨b, off + i * 2, none⟩ = some (.int .i64 (nW P i).1)
  cel : ∀ i, i < n → w.cell? ⟨b, off + i * 2 + 1, none⟩ = some (slV (nW P i).2)
  row : ∀ i, i < n → SlR w (nW P i).2
theorem Pens.below {B : Nat} {w w' : World} {a : Option Addr} {b off n : Nat} {P : List Wr} (h : Pens w a b off n P) (hb : Below B w w') (hB : w.heap.size ≤ B) : Pens w' a b off n P :=
  ⟨h.len, h.adr, fun hn => Nat.lt_of_lt_of_le (h.old hn) hb.size, fun i hi => (hb.cell (p := ⟨b, off + i * 2, none⟩) (Nat.lt_of_lt_of_le (h.old (by omega)) hB)).trans (h.at_ i hi), fun i hi => (hb.cell (p := ⟨b, off + i * 2 + 1, none⟩) (Nat.lt_of_lt_of_le (h.old (by omega)) hB)).trans (h.cel i hi), fun i hi => (h.row i hi).below hb hB⟩
/-- A disk. -/
structure Dk where
  sec : List Sl
  pen : List Wr
  lft : Int
  stp : Bool
def dkV (sa : Option Addr) (sc : Nat) (pa : Option Addr) (pc : Nat) (d : Dk) : Value := .agg #[.slice sa d.sec.length sc, .slice pa d.pen.length pc, .int .i64 d.lft, .bool d.stp]
def okHead (d : Dk) : Prop := 1 ≤ d.sec.length ∧ d.sec.length ≤ 4096 ∧ d.pen.length ≤ 4096 ∧ -1 ≤ d.lft ∧ d.lft ≤ 65536
def okSec (s : Sl) : Prop := s.2.2.length = 128
def okWr (n : Nat) (p : Wr) : Prop := 0 ≤ p.1 ∧ p.1 < n ∧ p.2.2.2.length = 128
def Valid (d : Dk) : Prop := okHead d ∧ (∀ i, i < d.sec.length → okSec (nS d.sec i)) ∧ ∀ i, i < d.pen.length → okWr d.sec.length (nW d.pen i)
open Classical in
noncomputable def chkE (d : Dk) : Int := if Valid d then 0 else 40
theorem chkE_ok {d : Dk} (h : Valid d) : chkE d = 0 := if_pos h
theorem chkE_bad {d : Dk} (h : ¬ Valid d) : chkE d = 40 := if_neg h
theorem cells_setU {w : World} {b i : Nat} {cs : Array Value} {v : Value} {t : TypeId} (h : w.heap[b]? = some (.cells cs t (0, 0))) : (w.setCell ⟨b, i, none⟩ v).heap[b]? = some (.cells (cs.setIfInBounds i v) t (0, 0)) := by
  have hlt := (Array.getElem?_eq_some_iff.1 h).1
  have h' : w.heap[b] = .cells cs t (0, 0) := (Array.getElem?_eq_some_iff.1 h).2
  show (w.heap.modify b _)[b]? = _
  rw [Array.getElem?_eq_getElem (by simpa using hlt), Array.getElem_modify_self, h']
  rfl
theorem box2_set {w : World} {b : Nat} {x0 x1 u0 u1 : Value} {t : TypeId} (h : w.heap[b]? = some (.cells #[x0, x1] t (0, 0))) : ((w.setCell ⟨b, 0, none⟩ u0).setCell ⟨b, 1, none⟩ u1).heap[b]? = some (.cells #[u0, u1] t (0, 0)) := cells_setU (cells_setU h)
theorem box2_below {B b : Nat} {a w : World} {u0 u1 : Value} (hb : B ≤ b) (h : Below B a w) : Below B a ((w.setCell ⟨b, 0, none⟩ u0).setCell ⟨b, 1, none⟩ u1) := (h.setCell (p := ⟨b, 0, none⟩) hb _).setCell (p := ⟨b, 1, none⟩) hb _
def sctB (i : Int) (n : Nat) : Bool := decide (0 ≤ i ∧ i < (n : Int))
theorem sctB_t {i : Int} {n : Nat} (h0 : 0 ≤ i) (h1 : i < (n : Int)) : sctB i n = true := decide_eq_true ⟨h0, h1⟩
theorem sctB_f {i : Int} {n : Nat} (h : i < 0 ∨ (n : Int) ≤ i) : sctB i n = false := decide_eq_false (by omega)
/-- Is there a sector? -/
theorem sector_any (S : Value) (sa : Option Addr) (sn sc : Nat) (lf : Int) (st : Bool) (i : Int) (w : World) :
    Calls Try.prog 29 #[.agg #[.slice sa sn sc, S, .int .i64 lf, .bool st], .int .i64 i] w fun e w' => e = .returned (.bool (sctB i sn)) ∧ Below w.heap.size w w' := by
  by_cases h0 : 0 ≤ i
  · by_cases h1 : i < (sn : Int)
    · go_enter Try.func29, Try.ntmps29
      go_wp2
      go_ret
      exact ⟨by rw [sctB_t h0 h1]; rfl, (Below.refl _ _).alloc (Nat.le_refl _) _⟩
    · go_enter Try.func29, Try.ntmps29
      go_wp2
      go_ret
      exact ⟨by rw [sctB_f (by omega)]; rfl, (Below.refl _ _).alloc (Nat.le_refl _) _⟩
  · go_enter Try.func29, Try.ntmps29
    go_wp2
    go_ret
    exact ⟨by rw [sctB_f (by omega)]; rfl, (Below.refl _ _).alloc (Nat.le_refl _) _⟩
end Go.Proofs.Ytbimmahlcceadaa
