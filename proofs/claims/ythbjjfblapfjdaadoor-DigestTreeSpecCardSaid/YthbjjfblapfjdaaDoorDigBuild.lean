/- Slices of digests that a call builds itself (layer 2). -/
import Derived.Test.YthbjjfblapfjdaaDoorDigRTree
namespace Go.Proofs.YthbjjfblapfjdaaDoor
open Go.ChangeShapes Go.WideShapes Go.ChangeAt Go.RowKit

/-- A list of digests as cells. -/
def dgC (L : List (List Int)) : List Value := L.flatMap fun x => x.map (Value.int .u8)
def D32 (L : List (List Int)) : Prop := ∀ x ∈ L, x.length = 32
theorem D32.nil : D32 [] := fun _ h => by cases h
theorem D32.one {x : List Int} (h : x.length = 32) : D32 [x] := fun y hy => by rw [List.mem_singleton] at hy; rw [hy]; exact h
theorem D32.app {L M : List (List Int)} (h : D32 L) (h' : D32 M) : D32 (L ++ M) := fun x hx => (List.mem_append.1 hx).elim (h x) (h' x)
theorem D32.take {L : List (List Int)} (h : D32 L) (k : Nat) : D32 (L.take k) := fun x hx => h x (List.mem_of_mem_take hx)
theorem D32.drop {L : List (List Int)} (h : D32 L) (k : Nat) : D32 (L.drop k) := fun x hx => h x (List.mem_of_mem_drop hx)
theorem D32.at {L : List (List Int)} (h : D32 L) {i : Nat} (hi : i < L.length) : (L.getD i []).length = 32 := by
  rw [List.getD_eq_getElem?_getD, List.getElem?_eq_getElem hi]
  exact h _ (List.getElem_mem hi)
theorem DigR.all {w : World} {a : Option Addr} {b off n : Nat} {l : List (List Int)} (h : DigR w a b off n l) : D32 l := by
  intro x hx
  obtain ⟨i, hi, rfl⟩ := List.getElem_of_mem hx
  have := h.dig i (by rw [← h.len]; exact hi)
  rwa [List.getD_eq_getElem?_getD, List.getElem?_eq_getElem hi] at this
theorem dgC_len : ∀ {L : List (List Int)}, D32 L → (dgC L).length = L.length * 32
  | [], _ => rfl
  | x :: L, h => by
    have h1 := h x (by simp)
    have := dgC_len (L := L) fun y hy => h y (by simp [hy])
    simp only [dgC, List.flatMap_cons, List.length_append, List.length_map, List.length_cons] at *
    omega
theorem dgC_app (L M : List (List Int)) : dgC (L ++ M) = dgC L ++ dgC M := by simp [dgC]
theorem dgC_one (x : List Int) : dgC [x] = x.map (Value.int .u8) := by simp [dgC]
theorem dgC_cells (L : List (List Int)) : ∀ u ∈ dgC L, u.oneCell' = true := by
  intro u hu
  obtain ⟨m, _, hm⟩ := List.mem_flatMap.1 hu
  obtain ⟨y, _, rfl⟩ := List.mem_map.1 hm
  rfl
theorem dgC_get : ∀ {L : List (List Int)}, D32 L → ∀ i j, i < L.length → j < 32 → (dgC L)[i * 32 + j]? = some (.int .u8 ((L.getD i []).getD j 0))
  | [], _, i, _, hi, _ => by simp at hi
  | x :: L, h, 0, j, _, hj => by
    have h1 := h x (by simp)
    rw [show 0 * 32 + j = j by omega]
    simp only [dgC, List.flatMap_cons]
    rw [List.getElem?_append_left (by simp; omega)]
    have hj' : j < x.length := by omega
    simp [List.getD_eq_getElem?_getD, hj']
  | x :: L, h, i + 1, j, hi, hj => by
    have h1 := h x (by simp)
    have ih := dgC_get (L := L) (fun y hy => h y (by simp [hy])) i j (by simpa using hi) hj
    simp only [dgC, List.flatMap_cons] at *
    rw [show (i + 1) * 32 + j = (i * 32 + j) + 32 by omega, List.getElem?_append_right (by simp; omega)]
    simp only [List.length_map, h1, Nat.add_sub_cancel]
    exact ih
theorem DigR.cellsAt {w : World} {a : Option Addr} {b off n : Nat} {l : List (List Int)} (h : DigR w a b off n l) : ∀ j u, (dgC l)[j]? = some u → w.cell? ⟨b, off + j, none⟩ = some u := by
  intro j u hu
  have hj := (List.getElem?_eq_some_iff.1 hu).1
  rw [dgC_len h.all, h.len] at hj
  have h1 := h.cel (j / 32) (j % 32) (by omega) (by omega)
  have h2 := dgC_get h.all (j / 32) (j % 32) (by rw [h.len]; omega) (by omega)
  rw [show j / 32 * 32 + j % 32 = j by omega] at h2
  rw [show off + j / 32 * 32 + j % 32 = off + j by omega] at h1
  rw [h1, ← h2]
  exact hu
theorem info_D : (Tryd.prog.info? 26).map (fun i => (i.zero, i.size, i.bytes)) = some (some (.agg (Array.replicate 32 (.int .u8 0))), 32, 32) := by kernel_rfl
def DgsO (w : World) (B : Nat) (v : Value) (L : List (List Int)) : Prop := D32 L ∧ w.ownsRow B 26 32 v L.length (dgC L)
theorem DgsO.nil (w : World) (B : Nat) : DgsO w B (.slice none 0 0) [] := ⟨D32.nil, World.ownsRow_nil _ _ _ _⟩
theorem DgsO.empty (w : World) (fr : Nat × Nat := (0, 0)) (hf : fr = (0, 0) := by rfl) : DgsO (w.alloc (.cells #[] 26 fr)) w.heap.size (.slice (some ⟨w.heap.size, 0, none⟩) 0 0) [] := by
  subst hf
  exact ⟨D32.nil, rfl, .inr ⟨w.heap.size, 0, #[], rfl, Nat.le_refl _, heap_alloc_new w _, Nat.le_refl _, by simp [maxLen], rfl, rfl⟩⟩
theorem DgsO.alloc {w : World} {B : Nat} {v : Value} {l : List (List Int)} (h : DgsO w B v l) (o : Obj) : DgsO (w.alloc o) B v l := ⟨h.1, World.ownsRow.alloc h.2 o⟩
theorem DgsO.mono {w : World} {B B' : Nat} {v : Value} {l : List (List Int)} (h : DgsO w B v l) (hB : B' ≤ B) : DgsO w B' v l := by
  refine ⟨h.1, h.2.1, ?_⟩
  rcases h.2.2 with h0 | ⟨g, cap, cur, h1, h2, h3⟩
  · exact .inl h0
  · exact .inr ⟨g, cap, cur, h1, Nat.le_trans hB h2, h3⟩
theorem DgsO.below {w w' : World} {B B' : Nat} {v : Value} {l : List (List Int)} (h : DgsO w B v l) (hb : Below B' w w') (hB : w.heap.size ≤ B') : DgsO w' B v l := by
  refine ⟨h.1, h.2.1, ?_⟩
  rcases h.2.2 with h0 | ⟨g, cap, cur, h1, h2, h3, h4⟩
  · exact .inl h0
  · refine .inr ⟨g, cap, cur, h1, h2, ?_, h4⟩
    have hlt := (Array.getElem?_eq_some_iff.1 h3).1
    exact (hb.block g (by omega)).trans h3
theorem DgsO.s {w : World} {B : Nat} {v : Value} {l : List (List Int)} (h : DgsO w B v l) : ∃ a b cap, v = .slice a l.length cap ∧ DigR w a b 0 l.length l ∧ (a = none → cap = 0) ∧ l.length ≤ cap ∧ cap ≤ maxLen ∧ (a = none ∨ (a = some ⟨b, 0, none⟩ ∧ b < w.heap.size)) := by
  rcases h.2.2 with ⟨h0, hn⟩ | ⟨g, cap, cur, h1, h2, h3, h4, h5, h6, h7⟩
  · exact ⟨none, 0, 0, by rw [hn]; exact h0, ⟨rfl, fun i hi => by omega, fun h => by omega, fun h => by omega, fun i j hi => by omega⟩, fun _ => rfl, by omega, by simp [maxLen], .inl rfl⟩
  · have hz := (Array.getElem?_eq_some_iff.1 h3).1
    refine ⟨some ⟨g, 0, none⟩, g, cap, h1, ⟨rfl, fun i hi => h.1.at hi, fun _ => rfl, fun _ => hz, fun i j hi hj => ?_⟩, fun h => (by cases h), h4, h5, .inr ⟨rfl, hz⟩⟩
    have h' := h.2
    subst h1
    rw [Nat.zero_add]
    exact (World.ownsRow.cellAt h' (i * 32 + j) (by omega)).trans (dgC_get h.1 i j hi hj)

section
variable {ops : Array Oper} {o : Oper} {rest : List Oper} {a : Act} {Q : Exit → Act → World → Prop} {w : World}
theorem wp_append_D {K : Act → World → Prop} (s x : Operand) (ho : o.op = .call { callee := .builtin .append, args := #[s, x], argTypes := #[30, 30] })
    (B : Nat) (v : Value) (l : List (List Int)) (hs : a.eval s = v) (hown : DgsO w B v l) (g : Nat) (m : List Int) (hm : m.length = 32) (c : Nat) (hx : a.eval x = .slice (some ⟨g, 0, none⟩) 1 c) (tb : TypeId) (fr : Nat × Nat)
    (hc : w.heap[g]? = some (.cells (bV m) tb fr)) (hlen : l.length ≤ 1200000) (hB : B ≤ w.heap.size)
    (h : ∀ v' w', DgsO w' B v' (l ++ [m]) → Below B w w' → w.grownBy w' v.ownBlock → K (a.put o.dst v') w') : o.wp Tryd.prog a w K Q := by
  obtain ⟨i0, hi, hz0, hz1, hz2⟩ := info_parts info_D
  refine wp_append_own w s x 30 ho B 26 i0 (.agg (Array.replicate 32 (.int .u8 0))) 32 32 Tryd.underlying30 hi hz0 hz1 hz2 (by kernel_rfl) (by decide) v l.length _ hs hown.2 ⟨g, 0, none⟩ 1 c (m.map (Value.int .u8)) hx (by rw [List.length_map, hm]) ?_ ?_ (by unfold maxLen; omega) (by omega) hB ?_
  · exact fun j u hj => World.news_of_block hc j u (by simpa [bV] using hj)
  · intro u hu
    obtain ⟨y, _, rfl⟩ := List.mem_map.1 hu
    rfl
  · intro v' w' h1 h2 _
    refine h v' w' ⟨hown.1.app (D32.one hm), ?_⟩ ((Below.refl B w).grown h2 hB fun k hk => (World.ownsRow.lt hown.2 k hk).1) h2
    rw [dgC_app, dgC_one, List.length_append]
    exact h1
theorem wp_append_Ds {K : Act → World → Prop} (s x : Operand) (ho : o.op = .call { callee := .builtin .append, args := #[s, x], argTypes := #[30, 30] })
    (B : Nat) (v : Value) (l : List (List Int)) (hs : a.eval s = v) (hown : DgsO w B v l) (ax : Option Addr) (b off n c : Nat) (l2 : List (List Int)) (hx : a.eval x = .slice ax n c) (hr : DigR w ax b off n l2) (hnc : ax = none → c = 0)
    (hlen : l.length + n ≤ 1200000) (hB : B ≤ w.heap.size)
    (h : ∀ v' w', DgsO w' B v' (l ++ l2) → Below B w w' → w.grownBy w' v.ownBlock → K (a.put o.dst v') w') : o.wp Tryd.prog a w K Q := by
  obtain ⟨i0, hi, hz0, hz1, hz2⟩ := info_parts info_D
  cases ax with
  | none =>
    obtain rfl : c = 0 := hnc rfl
    obtain rfl : n = 0 := by
      rcases Nat.eq_zero_or_pos n with h0 | h0
      · exact h0
      · have := hr.adr h0; cases this
    obtain rfl : l2 = [] := List.eq_nil_of_length_eq_zero hr.len
    have hrun := run_append_owned_none (P := Tryd.prog) (w := w) B 30 o.type 26 i0 32 Tryd.underlying30 hi v l.length _ hown.2
    unfold Oper.wp
    simp [execOp, ho, resolve, invoke, builtin, hs, hx, hrun, Result.andThen]
    exact h v w (by rw [List.append_nil]; exact hown) (Below.refl _ _) ⟨rfl, rfl, rfl, Nat.le_refl _, fun _ _ _ => rfl⟩
  | some ad =>
    refine wp_append_own w s x 30 ho B 26 i0 (.agg (Array.replicate 32 (.int .u8 0))) 32 32 Tryd.underlying30 hi hz0 hz1 hz2 (by kernel_rfl) (by decide) v l.length _ hs hown.2 ad n c (dgC l2) hx (by rw [dgC_len hr.all, hr.len]) ?_ (dgC_cells l2) (by unfold maxLen; omega) (by omega) hB ?_
    · intro j u hj
      have hn : 0 < n := by
        have := (List.getElem?_eq_some_iff.1 hj).1
        rw [dgC_len hr.all, hr.len] at this; omega
      have he := hr.adr hn
      cases he
      rw [Go.WideShapes.add_plain]
      exact hr.cellsAt j u hj
    · intro v' w' h1 h2 _
      refine h v' w' ⟨hown.1.app hr.all, ?_⟩ ((Below.refl B w).grown h2 hB fun k hk => (World.ownsRow.lt hown.2 k hk).1) h2
      rw [dgC_app, List.length_append, hr.len]
      exact h1
theorem wpList_append_D (hgd : o.guard = none) (s x : Operand) (ho : o.op = .call { callee := .builtin .append, args := #[s, x], argTypes := #[30, 30] })
    (B : Nat) (v : Value) (l : List (List Int)) (hs : a.eval s = v) (hown : DgsO w B v l) (g : Nat) (m : List Int) (hm : m.length = 32) (c : Nat) (hx : a.eval x = .slice (some ⟨g, 0, none⟩) 1 c) (tb : TypeId) (fr : Nat × Nat)
    (hc : w.heap[g]? = some (.cells (bV m) tb fr)) (hlen : l.length ≤ 1200000) (hB : B ≤ w.heap.size)
    (h : ∀ v' w', DgsO w' B v' (l ++ [m]) → Below B w w' → w.grownBy w' v.ownBlock → wpList Tryd.prog ops Q rest (a.put o.dst v') w') : wpList Tryd.prog ops Q (o :: rest) a w :=
  wpList_plain hgd fun _ hK => wp_append_D s x ho B v l hs hown g m hm c hx tb fr hc hlen hB fun v' w' h1 h2 h3 => hK _ _ (h v' w' h1 h2 h3)
theorem wpList_append_Ds (hgd : o.guard = none) (s x : Operand) (ho : o.op = .call { callee := .builtin .append, args := #[s, x], argTypes := #[30, 30] })
    (B : Nat) (v : Value) (l : List (List Int)) (hs : a.eval s = v) (hown : DgsO w B v l) (ax : Option Addr) (b off n c : Nat) (l2 : List (List Int)) (hx : a.eval x = .slice ax n c) (hr : DigR w ax b off n l2) (hnc : ax = none → c = 0)
    (hlen : l.length + n ≤ 1200000) (hB : B ≤ w.heap.size)
    (h : ∀ v' w', DgsO w' B v' (l ++ l2) → Below B w w' → w.grownBy w' v.ownBlock → wpList Tryd.prog ops Q rest (a.put o.dst v') w') : wpList Tryd.prog ops Q (o :: rest) a w :=
  wpList_plain hgd fun _ hK => wp_append_Ds s x ho B v l hs hown ax b off n c l2 hx hr hnc hlen hB fun v' w' h1 h2 h3 => hK _ _ (h v' w' h1 h2 h3)
end
end Go.Proofs.YthbjjfblapfjdaaDoor
/- Paths and climbs, as lists (layer 2). -/
namespace Go.Proofs.YthbjjfblapfjdaaDoor
open Go.ChangeShapes Go.WideShapes Go.ChangeAt Go.RowKit
/-- How many steps an index has from the root. -/
def stepsN (i n : Nat) : Nat :=
  if _h : n ≤ 1 then 0 else
  if i < halfN n then stepsN i (halfN n) + 1 else stepsN (i - halfN n) (n - halfN n) + 1
termination_by n
decreasing_by
  · exact halfN_lt (by omega)
  · have := halfN_pos n
    omega
theorem stepsN_one (i : Nat) : stepsN i 1 = 0 := by rw [stepsN, dif_pos (by omega)]
theorem stepsN_low {i n k : Nat} (h : 1 < n) (hk : k = halfN n) (hi : i < k) : stepsN i n = stepsN i k + 1 := by
  subst hk
  rw [stepsN, dif_neg (by omega), if_pos hi]
theorem stepsN_high {i n k : Nat} (h : 1 < n) (hk : k = halfN n) (hi : k ≤ i) : stepsN i n = stepsN (i - k) (n - k) + 1 := by
  subst hk
  rw [stepsN, dif_neg (by omega), if_neg (by omega)]
theorem stepsN_lt : ∀ (n i : Nat), 0 < n → stepsN i n < n := by
  intro n
  induction n using Nat.strongRecOn with
  | ind n ih =>
    intro i hn
    by_cases h1 : n ≤ 1
    · obtain rfl : n = 1 := by omega
      rw [stepsN_one]
      omega
    · have h2 := halfN_lt (n := n) (by omega)
      have h3 := halfN_pos n
      by_cases hi : i < halfN n
      · rw [stepsN_low (by omega) rfl hi]
        have := ih _ h2 i h3
        omega
      · rw [stepsN_high (by omega) rfl (by omega)]
        have := ih (n - halfN n) (by omega) (i - halfN n) (by omega)
        omega
/-- What proves that an element is in a list. -/
def pathL (l : List (List Int)) (i : Nat) : List (List Int) :=
  if _h : l.length ≤ 1 then [] else
  if i < halfN l.length then pathL (l.take (halfN l.length)) i ++ [dgL (treeS (l.drop (halfN l.length)))] else pathL (l.drop (halfN l.length)) (i - halfN l.length) ++ [dgL (treeS (l.take (halfN l.length)))]
termination_by l.length
decreasing_by
  · have := halfN_lt (n := l.length) (by omega)
    rw [List.length_take]
    omega
  · have := halfN_pos l.length
    rw [List.length_drop]
    omega
theorem pathL_one {l : List (List Int)} (i : Nat) (h : l.length = 1) : pathL l i = [] := by rw [pathL, dif_pos (by omega)]
theorem pathL_low {l : List (List Int)} {i n k : Nat} (hl : l.length = n) (h : 1 < n) (hk : k = halfN n) (hi : i < k) : pathL l i = pathL (l.take k) i ++ [dgL (treeS (l.drop k))] := by
  subst hk hl
  rw [pathL, dif_neg (by omega), if_pos hi]
theorem pathL_high {l : List (List Int)} {i n k : Nat} (hl : l.length = n) (h : 1 < n) (hk : k = halfN n) (hi : k ≤ i) : pathL l i = pathL (l.drop k) (i - k) ++ [dgL (treeS (l.take k))] := by
  subst hk hl
  rw [pathL, dif_neg (by omega), if_neg (by omega)]
theorem pathL_len : ∀ (n i : Nat) (l : List (List Int)), l.length = n → 0 < n → (pathL l i).length = stepsN i n := by
  intro n
  induction n using Nat.strongRecOn with
  | ind n ih =>
    intro i l hl hn
    by_cases h1 : n ≤ 1
    · obtain rfl : n = 1 := by omega
      rw [stepsN_one, pathL_one i hl]
      rfl
    · have h2 := halfN_lt (n := n) (by omega)
      have h3 := halfN_pos n
      by_cases hi : i < halfN n
      · rw [stepsN_low (by omega) rfl hi, pathL_low hl (by omega) rfl hi]
        have := ih _ h2 i (l.take (halfN n)) (by rw [List.length_take]; omega) h3
        simp only [List.length_append, List.length_singleton]
        omega
      · rw [stepsN_high (by omega) rfl (by omega), pathL_high hl (by omega) rfl (by omega)]
        have := ih (n - halfN n) (by omega) (i - halfN n) (l.drop (halfN n)) (by rw [List.length_drop]; omega) (by omega)
        simp only [List.length_append, List.length_singleton]
        omega
/-- The digest to which a path leads. -/
def climbS (d : List Int) (i n : Nat) (P : List (List Int)) : St :=
  if _h : n ≤ 1 then tagS ⟨#[108, 101, 97, 102]⟩ d else
  if i < halfN n then tagS ⟨#[110, 111, 100, 101]⟩ (dgL (climbS d i (halfN n) (P.take (P.length - 1))) ++ P.getD (P.length - 1) []) else tagS ⟨#[110, 111, 100, 101]⟩ (P.getD (P.length - 1) [] ++ dgL (climbS d (i - halfN n) (n - halfN n) (P.take (P.length - 1))))
termination_by n
decreasing_by
  · exact halfN_lt (by omega)
  · have := halfN_pos n
    omega
theorem climbS_one (d : List Int) (i : Nat) (P : List (List Int)) : climbS d i 1 P = tagS ⟨#[108, 101, 97, 102]⟩ d := by rw [climbS, dif_pos (by omega)]
theorem climbS_low {d : List Int} {i n k m : Nat} {P : List (List Int)} (h : 1 < n) (hk : k = halfN n) (hP : P.length = m + 1) (hi : i < k) : climbS d i n P = tagS ⟨#[110, 111, 100, 101]⟩ (dgL (climbS d i k (P.take m)) ++ P.getD m []) := by
  subst hk
  rw [climbS, dif_neg (by omega), if_pos hi, hP, Nat.add_sub_cancel]
theorem climbS_high {d : List Int} {i n k m : Nat} {P : List (List Int)} (h : 1 < n) (hk : k = halfN n) (hP : P.length = m + 1) (hi : k ≤ i) : climbS d i n P = tagS ⟨#[110, 111, 100, 101]⟩ (P.getD m [] ++ dgL (climbS d (i - k) (n - k) (P.take m))) := by
  subst hk
  rw [climbS, dif_neg (by omega), if_neg (by omega), hP, Nat.add_sub_cancel]
/-- Climbing the path of an element leads to the digest of the list. -/
theorem climb_path : ∀ (n i : Nat) (l : List (List Int)), l.length = n → i < n → climbS (l.getD i []) i n (pathL l i) = treeS l := by
  intro n
  induction n using Nat.strongRecOn with
  | ind n ih =>
    intro i l hl hi
    by_cases h1 : n ≤ 1
    · obtain rfl : n = 1 := by omega
      obtain rfl : i = 0 := by omega
      rw [climbS_one, treeS_leaf hl]
    · have h2 := halfN_lt (n := n) (by omega)
      have h3 := halfN_pos n
      have hT := treeS_node (l := l) (by omega)
      rw [hl] at hT
      by_cases hk : i < halfN n
      · have hp := pathL_low hl (by omega) rfl hk
        have hx : (pathL (l.take (halfN n)) i).length + 1 = (pathL l i).length := by rw [hp]; simp
        rw [climbS_low (by omega) rfl hx.symm hk, hp]
        have hj := ih _ h2 i (l.take (halfN n)) (by rw [List.length_take]; omega) hk
        have hg : (l.take (halfN n)).getD i [] = l.getD i [] := by
          simp only [List.getD_eq_getElem?_getD, List.getElem?_take]
          rw [if_pos hk]
        rw [hg] at hj
        rw [List.take_left' rfl, hj, hT]
        congr 2
        simp [List.getD_eq_getElem?_getD]
      · have hp := pathL_high hl (by omega) rfl (by omega : halfN n ≤ i)
        have hx : (pathL (l.drop (halfN n)) (i - halfN n)).length + 1 = (pathL l i).length := by rw [hp]; simp
        rw [climbS_high (by omega) rfl hx.symm (by omega), hp]
        have hj := ih (n - halfN n) (by omega) (i - halfN n) (l.drop (halfN n)) (by rw [List.length_drop]; omega) (by omega)
        have hg : (l.drop (halfN n)).getD (i - halfN n) [] = l.getD i [] := by
          simp only [List.getD_eq_getElem?_getD, List.getElem?_drop]
          rw [show halfN n + (i - halfN n) = i by omega]
        rw [hg] at hj
        rw [List.take_left' rfl, hj, hT]
        congr 2
        simp [List.getD_eq_getElem?_getD]
end Go.Proofs.YthbjjfblapfjdaaDoor
/- A digest built into a slice of one element (layer 2). -/
namespace Go.Proofs.YthbjjfblapfjdaaDoor
open Go.ChangeShapes Go.WideShapes Go.ChangeAt Go.RowKit
set_option maxRecDepth 100000 in
theorem build32 : ∀ (m : List Int), m.length = 32 → Array.foldl (fun (cs : Array Value) (x : Value × Nat) => cs.setIfInBounds x.2 x.1) #[Value.int .u8 0, Value.int .u8 0, Value.int .u8 0, Value.int .u8 0, Value.int .u8 0, Value.int .u8 0, Value.int .u8 0, Value.int .u8 0, Value.int .u8 0, Value.int .u8 0, Value.int .u8 0, Value.int .u8 0, Value.int .u8 0, Value.int .u8 0, Value.int .u8 0, Value.int .u8 0, Value.int .u8 0, Value.int .u8 0, Value.int .u8 0, Value.int .u8 0, Value.int .u8 0, Value.int .u8 0, Value.int .u8 0, Value.int .u8 0, Value.int .u8 0, Value.int .u8 0, Value.int .u8 0, Value.int .u8 0, Value.int .u8 0, Value.int .u8 0, Value.int .u8 0, Value.int .u8 0] (bV m).zipIdx 0 32 = bV m
  | [x0, x1, x2, x3, x4, x5, x6, x7, x8, x9, x10, x11, x12, x13, x14, x15, x16, x17, x18, x19, x20, x21, x22, x23, x24, x25, x26, x27, x28, x29, x30, x31], _ => by
    kernel_rfl
theorem bV_size32 {m : List Int} (h : m.length = 32) : (bV m).size = 32 := by rw [bV_size, h]
end Go.Proofs.YthbjjfblapfjdaaDoor
