/- The contract of Convert (layer 26). -/
import Derived.Test.YtipjogicjgkgjaaSpPlaces
import Derived.Test.YtipjogicjgkgjaaOwnX
namespace Go.Proofs.Ytipjogicjgkgjaa
open Go.RowKit Go.Shelf

attribute [local go_sem] Oper.semAt_some

def smpI (l : List Int) (a b : Int) (i : Nat) : Int := sV l ((i : Int) * a / b).toNat ((i : Int) * a % b) b
def convL (l : List Int) (a b : Int) (M : Nat) : List Int := (List.range M).map fun i => smpI l a b i
theorem convL_len (l : List Int) (a b : Int) (M : Nat) : (convL l a b M).length = M := by simp [convL]
theorem convL_succ (l : List Int) (a b : Int) (M : Nat) : convL l a b (M + 1) = convL l a b M ++ [smpI l a b M] := by simp [convL, List.range_succ]

/-- Where a sample lies. -/
theorem place_ok {n : Nat} {a b : Int} {i : Nat} (a1 : 1 ≤ a) (b1 : 1 ≤ b) (hi : (i : Int) < lenV n a b) : ∃ q : Nat, (i : Int) * a / b = (q : Int) ∧ q < n ∧ ((i : Int) * a % b ≠ 0 → q + 1 < n) ∧ 0 ≤ (i : Int) * a := by
  have p0 : 0 ≤ (i : Int) * a := Int.mul_nonneg (by omega) (by omega)
  obtain ⟨q, hq⟩ := Int.eq_ofNat_of_zero_le (Int.ediv_nonneg p0 (show 0 ≤ b by omega))
  have hn : (n : Int) ≠ 0 := fun h => by unfold lenV at hi; rw [if_pos h] at hi; omega
  unfold lenV at hi
  rw [if_neg hn] at hi
  have h1 : (i : Int) ≤ ((n : Int) - 1) * b / a := by omega
  have h2 : (i : Int) * a ≤ ((n : Int) - 1) * b := by
    have := (Int.le_ediv_iff_mul_le (show 0 < a by omega)).1 h1
    exact this
  have e := Int.mul_ediv_add_emod ((i : Int) * a) b
  have r0 := Int.emod_nonneg ((i : Int) * a) (show b ≠ 0 by omega)
  have hle : (q : Int) ≤ (n : Int) - 1 := by
    rw [← hq]
    exact Int.le_of_lt_add_one (Int.ediv_lt_of_lt_mul (by omega) (by rw [Int.add_mul, Int.one_mul]; omega))
  refine ⟨q, hq, by omega, fun hr => ?_, p0⟩
  by_cases g : (q : Int) < (n : Int) - 1
  · omega
  · exfalso
    have hqe : (q : Int) = (n : Int) - 1 := by omega
    rw [hq, hqe, Int.mul_comm b] at e
    omega

/-- What Convert keeps in memory while it appends. -/
structure CvR (w W : World) (a : Option Addr) (n cap : Nat) (b : Int) (MK BB : Nat) (xs : List Int) : Prop where
  s1 : W.heap[w.heap.size + 1]? = some (.cells #[.slice a n cap] 22 (0, 0))
  s2 : W.heap[w.heap.size + 1 + 1]? = some (.cells #[.int .i64 b] 3 (0, 0))
  s3 : W.heap[w.heap.size + 1 + 1 + 1]? = some (.cells #[.func (.func 29) #[] #[.pointer (some ⟨w.heap.size + 1, 0, none⟩), .pointer (some ⟨w.heap.size + 1 + 1, 0, none⟩)]] 41 (0, 0))
  res : ∃ v, W.heap[w.heap.size]? = some (.cells #[v] 22 (0, 0)) ∧ IntsX W MK BB v xs
  bb : BB ≤ W.heap.size
theorem CvR.grown {w A B : World} {a : Option Addr} {n cap : Nat} {b : Int} {MK BB : Nat} {xs : List Int} {r : Option Nat} (h : CvR w A a n cap b MK BB xs) (hg : A.grownBy B r) (hr : ∀ q, r = some q → ∃ o : Obj, A.heap[q]? = some o ∧ o.isCells = false) : CvR w B a n cap b MK BB xs := by
  obtain ⟨h1, h2, h3, ⟨v, h4, h5⟩, h6⟩ := h
  exact ⟨blk_kept h1 hg hr, blk_kept h2 hg hr, blk_kept h3 hg hr, ⟨v, blk_kept h4 hg hr, h5.grownNC hg hr⟩, Nat.le_trans h6 hg.size⟩
theorem CvR.push {w W w3 : World} {a : Option Addr} {n cap : Nat} {b : Int} {MK BB : Nat} {xs : List Int} {v v' : Value} {y : Int} (s1 : W.heap[w.heap.size + 1]? = some (.cells #[.slice a n cap] 22 (0, 0))) (s2 : W.heap[w.heap.size + 1 + 1]? = some (.cells #[.int .i64 b] 3 (0, 0)))
    (s3 : W.heap[w.heap.size + 1 + 1 + 1]? = some (.cells #[.func (.func 29) #[] #[.pointer (some ⟨w.heap.size + 1, 0, none⟩), .pointer (some ⟨w.heap.size + 1 + 1, 0, none⟩)]] 41 (0, 0)))
    (s0 : W.heap[w.heap.size]? = some (.cells #[v] 22 (0, 0))) (bb : BB ≤ W.heap.size) (hI : IntsX w3 MK BB v' (xs ++ [y])) (hU : UpdB MK BB W w3) (hM : w.heap.size + 4 = MK) (hB : MK < BB) : CvR w (w3.setCell ⟨w.heap.size, 0, none⟩ v') a n cap b MK BB (xs ++ [y]) := by
  have hf : ∀ q ob, q < BB → q ≠ MK → q ≠ w.heap.size → W.heap[q]? = some ob → (w3.setCell ⟨w.heap.size, 0, none⟩ v').heap[q]? = some ob := fun q ob h1 h2 h3 h => (Below.heap_setCell _ _ _ _ h3).trans (hU.keep h h1 h2)
  exact ⟨hf _ _ (by omega) (by omega) (by omega) s1, hf _ _ (by omega) (by omega) (by omega) s2, hf _ _ (by omega) (by omega) (by omega) s3, ⟨v', one_setCell (hU.keep s0 (by omega) (by omega)), hI.setCell (by omega)⟩, by rw [World.size_setCell]; exact Nat.le_trans bb hU.size⟩
theorem others_below {W W' : World} (h : Below W.heap.size W W') : KeepsOthers W W' := ⟨h.size, fun k _ hk _ => (h.block k (Array.getElem?_eq_some_iff.1 hk).1).trans hk⟩
theorem cell_far {W : World} {p q i : Nat} {u : Value} {x : Option Value} (h : q ≠ p) (hc : W.cell? ⟨q, i, none⟩ = x) : (W.setCell ⟨p, 0, none⟩ u).cell? ⟨q, i, none⟩ = x :=
  (World.cell?_of_block (a := ⟨q, i, none⟩) (Below.heap_setCell W ⟨p, 0, none⟩ u q h)).trans hc
theorem Ints.isSlice {w : World} {B : Nat} {v : Value} {l : List Int} (h : Ints w B v l) : ∃ a n c, v = .slice a n c := by
  obtain ⟨a, _, c, hv, _⟩ := h.row
  exact ⟨a, _, c, hv⟩

abbrev cvP (w : World) (a : Option Addr) (n cap : Nat) (b : Int) : World := (((w.alloc (.cells #[.slice none 0 0] 22)).alloc (.cells #[.slice a n cap] 22)).alloc (.cells #[.int .i64 b] 3)).alloc (.cells #[.func (.func 29) #[] #[.pointer (some ⟨w.heap.size + 1, 0, none⟩), .pointer (some ⟨w.heap.size + 1 + 1, 0, none⟩)]] 41)
structure CvS (w w1 : World) (a : Option Addr) (n cap : Nat) (b : Int) (M : Nat) : Prop where
  s0 : w1.heap[w.heap.size]? = some (.cells #[.slice none 0 0] 22 (0, 0))
  s1 : w1.heap[w.heap.size + 1]? = some (.cells #[.slice a n cap] 22 (0, 0))
  s2 : w1.heap[w.heap.size + 1 + 1]? = some (.cells #[.int .i64 b] 3 (0, 0))
  s3 : w1.heap[w.heap.size + 1 + 1 + 1]? = some (.cells #[.func (.func 29) #[] #[.pointer (some ⟨w.heap.size + 1, 0, none⟩), .pointer (some ⟨w.heap.size + 1 + 1, 0, none⟩)]] 41 (0, 0))
  own : Ints w1 (w.heap.size + 4) (.slice (some ⟨w.heap.size + 4, 0, none⟩) 0 M) []
  size : w.heap.size + 5 ≤ w1.heap.size
  bel : Below w.heap.size w w1
theorem cvStart {w w1 : World} {a : Option Addr} {n cap : Nat} {b : Int} {M : Nat} (hS : w1.ownsRow (w.heap.size + 4) 3 1 (.slice (some ⟨(cvP w a n cap b).heap.size, 0, none⟩) 0 M) 0 []) (hG : (cvP w a n cap b).grownBy w1 none) : CvS w w1 a n cap b M := by
  have hz : (cvP w a n cap b).heap.size = w.heap.size + 4 := by simp [cvP]
  have hB : Below (w.heap.size + 4) (cvP w a n cap b) w1 := (Below.refl _ _).grown hG (by rw [hz]; exact Nat.le_refl _) (fun _ h => by cases h)
  rw [hz] at hS
  have hlt := (World.ownsRow.lt hS (w.heap.size + 4) rfl).2
  have n1 := blk_new w (.cells #[.slice none 0 0] 22)
  have n2 := blk_new (w.alloc (.cells #[.slice none 0 0] 22)) (.cells #[.slice a n cap] 22)
  have n3 := blk_new ((w.alloc (.cells #[.slice none 0 0] 22)).alloc (.cells #[.slice a n cap] 22)) (.cells #[.int .i64 b] 3)
  have n4 := blk_new (((w.alloc (.cells #[.slice none 0 0] 22)).alloc (.cells #[.slice a n cap] 22)).alloc (.cells #[.int .i64 b] 3)) (.cells #[.func (.func 29) #[] #[.pointer (some ⟨w.heap.size + 1, 0, none⟩), .pointer (some ⟨w.heap.size + 1 + 1, 0, none⟩)]] 41)
  simp only [World.size_alloc] at n2 n3 n4
  refine ⟨blk_below (blk_alloc (blk_alloc (blk_alloc n1 _) _) _) hB (by omega), blk_below (blk_alloc (blk_alloc n2 _) _) hB (by omega), blk_below (blk_alloc n3 _) hB (by omega), blk_below n4 hB (by omega), hS, by omega, ?_⟩
  refine Below.trans ?_ (hB.mono (by omega))
  unfold cvP
  go_grown

structure CvF (w w1 W0 : World) (a : Option Addr) (n cap : Nat) (aa b : Int) (M : Nat) : Prop where
  size : W0.heap.size = w1.heap.size + 3
  lo : w.heap.size + 5 ≤ w1.heap.size
  b1 : W0.heap[w1.heap.size + 1 + 1]? = some (.cells #[.int .i64 M] 3 (0, 0))
  b2 : W0.heap[w1.heap.size]? = some (.cells #[.int .i64 aa] 3 (0, 0))
  b3 : W0.heap[w1.heap.size + 1]? = some (.cells #[.int .i64 b] 3 (0, 0))
  start : CvR w W0 a n cap b (w.heap.size + 4) W0.heap.size []
  bel : Below w.heap.size w W0
theorem CvS.rest {w w1 W0 : World} {a : Option Addr} {n cap : Nat} {aa b : Int} {M : Nat} (H : CvS w w1 a n cap b M) (hW : W0 = (((w1.setCell ⟨w.heap.size, 0, none⟩ (.slice (some ⟨w.heap.size + 4, 0, none⟩) 0 M)).alloc (.cells #[.int .i64 aa] 3)).alloc (.cells #[.int .i64 b] 3)).alloc (.cells #[.int .i64 M] 3)) : CvF w w1 W0 a n cap aa b M := by
  have e1 := blk_new (w1.setCell ⟨w.heap.size, 0, none⟩ (.slice (some ⟨w.heap.size + 4, 0, none⟩) 0 M)) (.cells #[.int .i64 aa] 3)
  have e2 := blk_new ((w1.setCell ⟨w.heap.size, 0, none⟩ (.slice (some ⟨w.heap.size + 4, 0, none⟩) 0 M)).alloc (.cells #[.int .i64 aa] 3)) (.cells #[.int .i64 b] 3)
  have e3 := blk_new (((w1.setCell ⟨w.heap.size, 0, none⟩ (.slice (some ⟨w.heap.size + 4, 0, none⟩) 0 M)).alloc (.cells #[.int .i64 aa] 3)).alloc (.cells #[.int .i64 b] 3)) (.cells #[.int .i64 M] 3)
  simp only [World.size_alloc, World.size_setCell] at e1 e2 e3
  have hs := H.bel.size
  have h4 := H.size
  have far : ∀ q ob, q ≠ w.heap.size → w1.heap[q]? = some ob → W0.heap[q]? = some ob := fun q ob hq h => by
    rw [hW]; exact blk_alloc (blk_alloc (blk_alloc ((Below.heap_setCell _ _ _ _ hq).trans h) _) _) _
  have hz : W0.heap.size = w1.heap.size + 3 := by rw [hW]; simp
  refine ⟨hz, h4, by rw [hW]; exact e3, by rw [hW]; exact blk_alloc (blk_alloc e1 _) _, by rw [hW]; exact blk_alloc e2 _, ⟨far _ _ (by omega) H.s1, far _ _ (by omega) H.s2, far _ _ (by omega) H.s3, ⟨.slice (some ⟨w.heap.size + 4, 0, none⟩) 0 M, ?_, ⟨⟨H.own.1, ?_⟩, fun g hg => ?_⟩⟩, Nat.le_refl _⟩, ?_⟩
  · rw [hW]; exact blk_alloc (blk_alloc (blk_alloc (one_setCell H.s0) _) _) _
  · rcases H.own.2 with ⟨h0, _⟩ | ⟨g, cp, cur, h1, h2, h3, h5⟩
    · cases h0
    · exact .inr ⟨g, cp, cur, h1, h2, far _ _ (by omega) h3, h5⟩
  · left; simpa [Value.ownBlock] using hg.symm
  · rw [hW]
    exact (((H.bel.setCell (p := ⟨w.heap.size, 0, none⟩) (Nat.le_refl _) _).alloc (by rw [World.size_setCell]; omega) _).alloc (by simp; omega) _).alloc (by simp; omega) _
theorem conv_map {l : List Int} {a b : Int} {M : Nat} {ys : List (Ix M)} {c : Nat} (hy : firstK ys c) : (ys.map fun y => smpI l a b y.1) = convL l a b c := by
  unfold convL
  rw [← show ys.map (·.1) = List.range c from hy, List.map_map]
  rfl
end Go.Proofs.Ytipjogicjgkgjaa
