/- A slice of digests in memory; the digest of a list (layer 2). -/
import Derived.Test.YthbjjfblapfjdaaDoorDigLeft
namespace Go.Proofs.YthbjjfblapfjdaaDoor
open Go.ChangeShapes Go.WideShapes Go.ChangeAt Go.RowKit

/-- A slice of digests: what it holds, and where. -/
structure DigR (w : World) (a : Option Addr) (b off n : Nat) (l : List (List Int)) : Prop where
  len : l.length = n
  dig : ∀ i, i < n → (l.getD i []).length = 32
  adr : 0 < n → a = some ⟨b, off, none⟩
  old : 0 < n → b < w.heap.size
  cel : ∀ i j, i < n → j < 32 → w.cell? ⟨b, off + i * 32 + j, none⟩ = some (.int .u8 ((l.getD i []).getD j 0))

theorem DigR.below {w w' : World} {a : Option Addr} {b off n : Nat} {l : List (List Int)} (h : DigR w a b off n l) {B : Nat} (hb : Below B w w') (hB : w.heap.size ≤ B) : DigR w' a b off n l :=
  ⟨h.len, h.dig, h.adr, fun hn => Nat.lt_of_lt_of_le (h.old hn) hb.size, fun i j hi hj => (hb.cell (p := ⟨b, off + i * 32 + j, none⟩) (Nat.lt_of_lt_of_le (h.old (by omega)) hB)).trans (h.cel i j hi hj)⟩
/-- Element i, as a row of bytes. -/
theorem DigR.elem {w : World} {a : Option Addr} {b off n : Nat} {l : List (List Int)} (h : DigR w a b off n l) {i : Nat} (hi : i < n) : RowB w (some ⟨b, off + i * 32, none⟩) b (off + i * 32) 32 (l.getD i []) :=
  ⟨h.dig i hi, fun _ => rfl, fun _ => h.old (by omega), fun j hj => h.cel i j hi hj⟩
/-- The first k elements. -/
theorem DigR.take {w : World} {a : Option Addr} {b off n : Nat} {l : List (List Int)} (h : DigR w a b off n l) {k : Nat} (hk : k ≤ n) (h0 : 0 < k) : DigR w a b off k (l.take k) := by
  have e : ∀ i, i < k → (l.take k).getD i [] = l.getD i [] := fun i hi => by
    simp only [List.getD_eq_getElem?_getD, List.getElem?_take]
    rw [if_pos hi]
  exact ⟨by rw [List.length_take, h.len]; omega, fun i hi => by rw [e i hi]; exact h.dig i (by omega), fun _ => h.adr (by omega), fun _ => h.old (by omega), fun i j hi hj => by rw [e i hi]; exact h.cel i j (by omega) hj⟩
/-- The elements from k on. -/
theorem DigR.drop {w : World} {a a' : Option Addr} {b off n : Nat} {l : List (List Int)} (h : DigR w a b off n l) {k m : Nat} (hk : k + m = n) (ha : 0 < m → a' = some ⟨b, off + k * 32, none⟩) : DigR w a' b (off + k * 32) m (l.drop k) := by
  have e : ∀ i, (l.drop k).getD i [] = l.getD (k + i) [] := fun i => by
    simp only [List.getD_eq_getElem?_getD, List.getElem?_drop]
  exact ⟨by rw [List.length_drop, h.len]; omega, fun i hi => by rw [e i]; exact h.dig (k + i) (by omega), ha, fun hm => h.old (by omega), fun i j hi hj => by
    rw [e i, show off + k * 32 + i * 32 + j = off + (k + i) * 32 + j by omega]
    exact h.cel (k + i) j (by omega) hj⟩

/-- The digest of a list. -/
def treeS (l : List (List Int)) : St :=
  if _h0 : l.length = 0 then tagS ⟨#[101, 109, 112, 116, 121]⟩ [] else
  if _h1 : l.length = 1 then tagS ⟨#[108, 101, 97, 102]⟩ (l.getD 0 []) else
  tagS ⟨#[110, 111, 100, 101]⟩ (dgL (treeS (l.take (halfN l.length))) ++ dgL (treeS (l.drop (halfN l.length))))
termination_by l.length
decreasing_by
  · have := halfN_lt (n := l.length) (by omega)
    rw [List.length_take]
    omega
  · have := halfN_pos l.length
    rw [List.length_drop]
    omega
theorem treeS_empty {l : List (List Int)} (h : l.length = 0) : treeS l = tagS ⟨#[101, 109, 112, 116, 121]⟩ [] := by
  rw [treeS, dif_pos h]
theorem treeS_leaf {l : List (List Int)} (h : l.length = 1) : treeS l = tagS ⟨#[108, 101, 97, 102]⟩ (l.getD 0 []) := by
  rw [treeS, dif_neg (by omega), dif_pos h]
theorem treeS_node {l : List (List Int)} (h : 1 < l.length) : treeS l = tagS ⟨#[110, 111, 100, 101]⟩ (dgL (treeS (l.take (halfN l.length))) ++ dgL (treeS (l.drop (halfN l.length)))) := by
  rw [treeS, dif_neg (by omega), dif_neg (by omega)]
end Go.Proofs.YthbjjfblapfjdaaDoor
