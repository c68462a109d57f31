/- Digest: the numbers of a block, and the state (layer 2): mathematics alone. -/
import Derived.Test.YthbjjfblapfjdaaDoorDigLeaf
namespace Go.Proofs.YthbjjfblapfjdaaDoor

def sgA (x : Int) : Int := bits .xor .u32 (bits .xor .u32 (ror x 7) (ror x 18)) (x / 8)
def sgB (x : Int) : Int := bits .xor .u32 (bits .xor .u32 (ror x 17) (ror x 19)) (x / 1024)
def nextW (a b c d : Int) : Int := (a + sgA b + c + sgB d) % 4294967296
def wordOf (l : List Int) (i : Nat) : Int := word (l.getD (4 * i) 0) (l.getD (4 * i + 1) 0) (l.getD (4 * i + 2) 0) (l.getD (4 * i + 3) 0)
/-- The numbers of a block, up to 16 + k. -/
def schL (l : List Int) : Nat → List Int
  | 0 => (List.range 16).map (wordOf l)
  | k + 1 => schL l k ++ [nextW ((schL l k).getD k 0) ((schL l k).getD (k + 1) 0) ((schL l k).getD (k + 9) 0) ((schL l k).getD (k + 14) 0)]
theorem schL_len (l : List Int) : ∀ k, (schL l k).length = 16 + k := by
  intro k
  induction k with
  | zero => simp [schL]
  | succ k ih => unfold schL; rw [List.length_append, ih]; rfl
theorem schL_low (l : List Int) (i : Nat) : ∀ k j, i < 16 + k → (schL l (k + j)).getD i 0 = (schL l k).getD i 0 := by
  intro k j h
  induction j with
  | zero => rfl
  | succ j ih =>
    rw [← ih, Nat.add_succ, Nat.succ_eq_add_one]
    show (schL l (k + j) ++ _).getD i 0 = _
    simp only [List.getD_eq_getElem?_getD]
    rw [List.getElem?_append_left (by rw [schL_len]; omega)]
/-- Number t of a block. -/
def wAt (l : List Int) (t : Nat) : Int := (schL l 48).getD t 0
theorem wAt_first (l : List Int) {t : Nat} (h : t < 16) : wAt l t = wordOf l t := by
  unfold wAt
  have := schL_low l t 0 48 (by omega)
  rw [Nat.zero_add] at this
  rw [this]
  simp [schL, List.getD_eq_getElem?_getD, h]
theorem wAt_next (l : List Int) {k : Nat} (h : k < 48) : wAt l (k + 16) = nextW (wAt l k) (wAt l (k + 1)) (wAt l (k + 9)) (wAt l (k + 14)) := by
  have e : ∀ i, i < 16 + k → wAt l i = (schL l k).getD i 0 := fun i hi => by
    have := schL_low l i k (48 - k) hi
    rw [show k + (48 - k) = 48 by omega] at this
    exact this
  rw [e k (by omega), e (k + 1) (by omega), e (k + 9) (by omega), e (k + 14) (by omega)]
  unfold wAt
  have := schL_low l (k + 16) (k + 1) (47 - k) (by omega)
  rw [show k + 1 + (47 - k) = 48 by omega] at this
  rw [this]
  show (schL l k ++ _).getD (k + 16) 0 = _
  simp only [List.getD_eq_getElem?_getD]
  rw [List.getElem?_append_right (by rw [schL_len]; omega), schL_len]
  simp [show k + 16 - (16 + k) = 0 by omega]
theorem sgA_u32 {x : Int} (h : isU32 x) : isU32 (sgA x) := ((ror_u32 h _).xor (ror_u32 h _)).xor (h.div 3)
theorem sgB_u32 {x : Int} (h : isU32 x) : isU32 (sgB x) := ((ror_u32 h _).xor (ror_u32 h _)).xor (h.div 10)
theorem wAt_u32 (l : List Int) : ∀ t, isU32 (wAt l t) := by
  intro t
  induction t using Nat.strongRecOn with
  | ind t ih =>
    by_cases h : t < 16
    · rw [wAt_first l h]; exact word_u32 _ _ _ _
    · by_cases h2 : t < 64
      · obtain ⟨k, rfl⟩ : ∃ k, t = k + 16 := ⟨t - 16, by omega⟩
        rw [wAt_next l (by omega)]
        exact mod_u32 _
      · unfold wAt
        rw [List.getD_eq_getElem?_getD, List.getElem?_eq_none (by rw [schL_len]; omega)]
        exact ⟨by decide, by decide⟩
end Go.Proofs.YthbjjfblapfjdaaDoor
