/- What Bars keeps in memory, and the ticks that it collects (layer 10). -/
import Derived.Test.YtkgimglkiniofaaMetreItO
namespace Go.Proofs.Ytkgimglkiniofaa
open Go.RowKit Go.Shelf

/-- The ticks of the first j bars of stretch k that lie in the part. -/
def inPart (fr to t : Int) : Bool := decide (fr ≤ t ∧ t < to)
def partL (l : List Mt) (fr to : Int) (k j : Nat) : List Int := ((List.range j).map fun (i : Nat) => tickOf l k + (i : Int) * lenOf l k).filter (inPart fr to)
def cntOf (l : List Mt) (k : Nat) : Nat := (endOf l k - (nthM l k).1).toNat
def allF (l : List Mt) (fr to : Int) (is : List Nat) : List Int := is.flatMap fun k => partL l fr to k (cntOf l k)
def ixs {n : Nat} (pre : List (Ix n)) : List Nat := pre.map (·.1)
theorem allF_snoc (l : List Mt) (fr to : Int) {n : Nat} (pre : List (Ix n)) (x : Ix n) : allF l fr to (ixs (pre ++ [x])) = allF l fr to (ixs pre) ++ partL l fr to x.1 (cntOf l x.1) := by
  simp [allF, ixs]
/-- What has been collected, and whether it has become full. -/
def Col (A : List Int) (fb : Bool) (xs : List Int) : Prop := (fb = false ∧ xs = A ∧ A.length ≤ 4096) ∨ (fb = true ∧ xs.length = 4096 ∧ 4096 < A.length)
theorem partL_succ (l : List Mt) (fr to : Int) (k j : Nat) : partL l fr to k (j + 1) = partL l fr to k j ++ (if inPart fr to (tickOf l k + (j : Int) * lenOf l k) then [tickOf l k + (j : Int) * lenOf l k] else []) := by
  unfold partL
  rw [List.range_succ, List.map_append, List.filter_append]
  congr 1
  simp only [List.map_cons, List.map_nil, List.filter_cons, List.filter_nil]
theorem partL_from {l : List Mt} {fr to : Int} {k j m : Nat} (h : ∀ i : Nat, j ≤ i → i < m → inPart fr to (tickOf l k + (i : Int) * lenOf l k) = false) (hjm : j ≤ m) : partL l fr to k m = partL l fr to k j := by
  induction m with
  | zero => obtain rfl : j = 0 := by omega
            rfl
  | succ m ih =>
    by_cases e : j = m + 1
    · rw [e]
    · rw [partL_succ, h m (by omega) (by omega), ih (fun i h1 h2 => h i h1 (by omega)) (by omega)]
      simp
theorem partL_len {l : List Mt} {fr to : Int} {k j m : Nat} (h : j ≤ m) : (partL l fr to k j).length ≤ (partL l fr to k m).length := by
  induction m with
  | zero => obtain rfl : j = 0 := by omega
            exact Nat.le_refl _
  | succ m ih =>
    by_cases e : j = m + 1
    · rw [e]; exact Nat.le_refl _
    · have := ih (by omega)
      rw [partL_succ, List.length_append]
      omega
/-- The first bar of a stretch in the part. -/
theorem first_spec {fr T n : Int} (hn : 1 ≤ n) : ∃ j : Nat, max 0 ((fr - T + n - 1).tdiv n) = (j : Int) ∧ (∀ i : Nat, i < j → T + (i : Int) * n < fr) ∧ fr ≤ T + (j : Int) * n ∧ ((j : Int) = 0 ∨ (j : Int) ≤ fr - T) := by
  by_cases h : 0 ≤ fr - T + n - 1
  · rw [Int.tdiv_eq_ediv_of_nonneg h]
    have q0 : 0 ≤ (fr - T + n - 1) / n := Int.ediv_nonneg h (by omega)
    obtain ⟨j, hj⟩ := Int.eq_ofNat_of_zero_le q0
    have e := Int.mul_ediv_add_emod (fr - T + n - 1) n
    have r0 := Int.emod_nonneg (fr - T + n - 1) (show n ≠ 0 by omega)
    have r1 := Int.emod_lt_of_pos (fr - T + n - 1) (show 0 < n by omega)
    rw [hj] at e q0 ⊢
    rw [Int.mul_comm] at e
    refine ⟨j, by omega, fun i hi => ?_, by omega, ?_⟩
    · have := Int.mul_le_mul_of_nonneg_right (show (i : Int) + 1 ≤ (j : Int) by omega) (show 0 ≤ n by omega)
      rw [Int.add_mul, Int.one_mul] at this
      omega
    · by_cases h0 : (j : Int) = 0
      · exact .inl h0
      · right
        have h3 := Int.mul_le_mul_of_nonneg_left (show (1 : Int) ≤ n from hn) (show 0 ≤ (j : Int) - 1 by omega)
        have h4 : ((j : Int) - 1) * n = (j : Int) * n - n := by rw [Int.sub_mul, Int.one_mul]
        omega
  · have h5 : (fr - T + n - 1).tdiv n ≤ 0 := by
      have := Int.neg_tdiv (-(fr - T + n - 1)) n
      rw [Int.neg_neg] at this
      rw [this]
      have := Int.tdiv_nonneg (show 0 ≤ -(fr - T + n - 1) by omega) (show 0 ≤ n by omega)
      omega
    exact ⟨0, by omega, fun i hi => by omega, by simp; omega, .inl rfl⟩

def colF (w : World) (X : Nat) : Value := .func (.func 25) #[] #[.pointer (some ⟨w.heap.size + 1 + 1, 0, none⟩), .pointer (some ⟨X, 0, none⟩)]
structure BrR (w W : World) (fr to : Int) (X BB : Nat) (fb : Bool) (xs : List Int) : Prop where
  s0 : W.heap[w.heap.size]? = some (.cells #[.int .i64 fr] 3 (0, 0))
  s1 : W.heap[w.heap.size + 1]? = some (.cells #[.int .i64 to] 3 (0, 0))
  s2 : ∃ v, W.heap[w.heap.size + 1 + 1]? = some (.cells #[v] 31 (0, 0)) ∧ Ints W BB v xs
  s3 : W.heap[X]? = some (.cells #[.bool fb] 4 (0, 0))
  s4 : W.heap[X + 1]? = some (.cells #[colF w X] 48 (0, 0))
  bb : BB ≤ W.heap.size
theorem Ints.grownNC {w w' : World} {B : Nat} {v : Value} {l : List Int} {row : Option Nat} (h : Ints w B v l) (hg : w.grownBy w' row) (hr : ∀ r, row = some r → ∃ o : Obj, w.heap[r]? = some o ∧ o.isCells = false) : Ints w' B v l := by
  refine ⟨h.1, ?_⟩
  rcases h.2 with h0 | ⟨g, cap, cur, h1, h2, h3, h4⟩
  · exact .inl h0
  · exact .inr ⟨g, cap, cur, h1, h2, blk_kept h3 hg hr, h4⟩
theorem BrR.grown {w A B : World} {fr to : Int} {X BB : Nat} {fb : Bool} {xs : List Int} {r : Option Nat} (h : BrR w A fr to X BB fb xs) (hg : A.grownBy B r) (hr : ∀ q, r = some q → ∃ o : Obj, A.heap[q]? = some o ∧ o.isCells = false) : BrR w B fr to X BB fb xs := by
  obtain ⟨h0, h1, ⟨v, h2, h2'⟩, h3, h4, h5⟩ := h
  exact ⟨blk_kept h0 hg hr, blk_kept h1 hg hr, ⟨v, blk_kept h2 hg hr, h2'.grownNC hg hr⟩, blk_kept h3 hg hr, blk_kept h4 hg hr, Nat.le_trans h5 hg.size⟩
theorem BrR.alloc {w A : World} {fr to : Int} {X BB : Nat} {fb : Bool} {xs : List Int} (h : BrR w A fr to X BB fb xs) (o : Obj) : BrR w (A.alloc o) fr to X BB fb xs := by
  obtain ⟨h0, h1, ⟨v, h2, h2'⟩, h3, h4, h5⟩ := h
  exact ⟨blk_alloc h0 _, blk_alloc h1 _, ⟨v, blk_alloc h2 _, h2'.alloc _⟩, blk_alloc h3 _, blk_alloc h4 _, by simp; omega⟩
/-- What Bars may write to. -/
def ownB (w : World) (X BB k : Nat) (o : Obj) : Prop := (k = w.heap.size + 1 + 1 ∧ ∃ cs f, o = .cells cs 31 f) ∨ (k = X ∧ ∃ cs f, o = .cells cs 4 f) ∨ (BB ≤ k ∧ ∃ cs f, o = .cells cs 3 f)
theorem ownB_no (w : World) (X BB : Nat) : ∀ k cs, ¬ ownB w X BB k (.cells cs 45 (0, 0)) := by
  rintro k cs (⟨_, cs', f, h⟩ | ⟨_, cs', f, h⟩ | ⟨_, cs', f, h⟩)
  · cases h
  · cases h
  · cases h
/-- What Bars answers. -/
def barsE (A : List Int) : Int := if A.length ≤ 4096 then 0 else 2
def barsR (A : List Int) : List Int := if A.length ≤ 4096 then A else []
theorem Ints.setFar {w : World} {B p : Nat} {v u : Value} {l : List Int} (h : Ints w B v l) (hp : p < B) : Ints (w.setCell ⟨p, 0, none⟩ u) B v l := by
  refine ⟨h.1, ?_⟩
  rcases h.2 with h0 | ⟨g, cap, cur, h1, h2, h3, h4⟩
  · exact .inl h0
  · exact .inr ⟨g, cap, cur, h1, h2, (Below.heap_setCell _ _ _ _ (show g ≠ p by omega)).trans h3, h4⟩
def BrI (w W : World) (l : List Mt) (fr to : Int) (X BB : Nat) (is : List Nat) : Prop := ∃ fb xs, BrR w W fr to X BB fb xs ∧ Col (allF l fr to is) fb xs
theorem BrI.of {w W : World} {l : List Mt} {fr to : Int} {X BB : Nat} {is : List Nat} {fb : Bool} {xs : List Int} (h1 : BrR w W fr to X BB fb xs) (h2 : Col (allF l fr to is) fb xs) : BrI w W l fr to X BB is := ⟨fb, xs, h1, h2⟩
/-- It becomes full. -/
theorem BrR.full {w W : World} {fr to : Int} {X BB : Nat} {fb : Bool} {xs : List Int} (h : BrR w W fr to X BB fb xs) (h1 : w.heap.size + 3 ≤ X) (h2 : X + 3 ≤ BB) (hB : Below w.heap.size w W) :
    KeepsOthers W (W.setCell ⟨X, 0, none⟩ (.bool true)) ∧ KpO (ownB w X BB) W (W.setCell ⟨X, 0, none⟩ (.bool true)) ∧ BrR w (W.setCell ⟨X, 0, none⟩ (.bool true)) fr to X BB true xs ∧ Below w.heap.size w (W.setCell ⟨X, 0, none⟩ (.bool true)) := by
  have far : ∀ q ob, q ≠ X → W.heap[q]? = some ob → (W.setCell ⟨X, 0, none⟩ (.bool true)).heap[q]? = some ob := fun q ob hq hw => (Below.heap_setCell W ⟨X, 0, none⟩ (.bool true) q hq).trans hw
  obtain ⟨s0, s1, ⟨v, s2, hI⟩, s3, s4, bb⟩ := h
  refine ⟨KeepsOthers.setCell _ _ _, ⟨by simp, fun k ob hk _ hn => far _ _ (fun e => hn (.inr (.inl ⟨e, by subst e; rw [s3] at hk; cases hk; exact ⟨_, _, rfl⟩⟩))) hk⟩, ⟨far _ _ (by omega) s0, far _ _ (by omega) s1, ⟨v, far _ _ (by omega) s2, ⟨hI.1, ?_⟩⟩, one_setCell s3, far _ _ (by omega) s4, by rw [World.size_setCell]; exact bb⟩, hB.setCell (p := ⟨X, 0, none⟩) (show w.heap.size ≤ X by omega) _⟩
  rcases hI.2 with h0 | ⟨g, cp, cur, e1, e2, e3, e4⟩
  · exact .inl h0
  · exact .inr ⟨g, cp, cur, e1, e2, far _ _ (by omega) e3, e4⟩
/-- A tick more. -/
theorem BrR.push {w W w2 : World} {fr to t : Int} {X BB : Nat} {fb : Bool} {xs : List Int} {v v' : Value} (h : BrR w W fr to X BB fb xs) (hv : W.heap[w.heap.size + 1 + 1]? = some (.cells #[v] 31 (0, 0))) (hI : Ints W BB v xs) (h1 : w.heap.size + 3 ≤ X) (h2 : X + 3 ≤ BB) (hB : Below w.heap.size w W)
    (hO : Ints w2 BB v' (xs ++ [t])) (hg : (W.alloc (.cells #[.int .i64 t] 3)).grownBy w2 v.ownBlock) :
    KeepsOthers W (w2.setCell ⟨w.heap.size + 1 + 1, 0, none⟩ v') ∧ KpO (ownB w X BB) W (w2.setCell ⟨w.heap.size + 1 + 1, 0, none⟩ v') ∧ BrR w (w2.setCell ⟨w.heap.size + 1 + 1, 0, none⟩ v') fr to X BB fb (xs ++ [t]) ∧ Below w.heap.size w (w2.setCell ⟨w.heap.size + 1 + 1, 0, none⟩ v') := by
  have hsz : W.heap.size + 1 ≤ w2.heap.size := by have := hg.size; rwa [World.size_alloc] at this
  have own : ∀ g, v.ownBlock = some g → BB ≤ g ∧ ∃ cur, W.heap[g]? = some (.cells cur 3 (0, 0)) := by
    intro g hq
    rcases hI.2 with ⟨h0, _⟩ | ⟨q, cp, cur, e1, e2, e3, _⟩
    · rw [h0] at hq; cases hq
    · rw [e1] at hq; cases hq; exact ⟨e2, cur, e3⟩
  have keep : ∀ q ob, W.heap[q]? = some ob → some q ≠ v.ownBlock → w2.heap[q]? = some ob := fun q ob hq hn => by
    have hlt := (Array.getElem?_eq_some_iff.1 hq).1
    rw [hg.block q (by rw [World.size_alloc]; omega) hn]
    exact (Below.heap_alloc W _ q hlt).trans hq
  have low : ∀ q ob, q < BB → W.heap[q]? = some ob → w2.heap[q]? = some ob := fun q ob hq hw => keep q ob hw fun e => by have := (own q e.symm).1; omega
  have far : ∀ q ob, q ≠ w.heap.size + 1 + 1 → w2.heap[q]? = some ob → (w2.setCell ⟨w.heap.size + 1 + 1, 0, none⟩ v').heap[q]? = some ob := fun q ob hq hw => (Below.heap_setCell w2 ⟨w.heap.size + 1 + 1, 0, none⟩ v' q hq).trans hw
  have hBB : Below BB W w2 := ⟨hg.os, hg.tape, hg.output, by omega, fun k hk => by
    have hkW : k < W.heap.size := by have := h.bb; omega
    exact (hg.block k (by rw [World.size_alloc]; omega) fun e => by have := (own k e.symm).1; omega).trans (Below.heap_alloc W _ k hkW)⟩
  refine ⟨?_, ⟨by rw [World.size_setCell]; omega, fun k ob hk hc hn => ?_⟩, ⟨far _ _ (by omega) (low _ _ (by omega) h.s0), far _ _ (by omega) (low _ _ (by omega) h.s1), ⟨v', one_setCell (low _ _ (by omega) hv), ⟨hO.1, ?_⟩⟩, far _ _ (by omega) (low _ _ (by omega) h.s3), far _ _ (by omega) (low _ _ (by omega) h.s4), by rw [World.size_setCell]; have := h.bb; omega⟩, ((hB.trans (hBB.mono (by omega)))).setCell (p := ⟨w.heap.size + 1 + 1, 0, none⟩) (show w.heap.size ≤ w.heap.size + 1 + 1 by omega) _⟩
  · refine KeepsOthers.trans ⟨by omega, fun k ob hk hc => keep k ob hk fun e => ?_⟩ (KeepsOthers.setCell _ _ _)
    obtain ⟨_, cur, hw⟩ := own k e.symm
    rw [hk] at hw; cases hw; cases hc
  · refine far _ _ (fun e => hn (.inl ⟨e, by subst e; rw [hv] at hk; cases hk; exact ⟨_, _, rfl⟩⟩)) (keep k ob hk fun e => ?_)
    obtain ⟨hg1, cur, hw⟩ := own k e.symm
    rw [hk] at hw; cases hw
    exact hn (.inr (.inr ⟨hg1, cur, _, rfl⟩))
  · rcases hO.2 with h0 | ⟨g, cp, cur, e1, e2, e3, e4⟩
    · exact .inl h0
    · exact .inr ⟨g, cp, cur, e1, e2, far _ _ (by omega) e3, e4⟩
end Go.Proofs.Ytkgimglkiniofaa
