/- Slices of places of a take, and Places (layer 44). -/
import Derived.Test.YthnhnmmabjmjgaaOvdM
import Derived.Test.YthnhnmmabjmjgaaCopyN
import Derived.Great.BuildSlice
import Derived.Deep.MidRow
import Derived.Deep.Cut
namespace Go.Proofs.Ythnhnmmabjmjgaa
open Go.ChangeShapes Go.WideShapes Go.ChangeAt Go.RowKit Go.Shelf

abbrev Pt := Int × Int × Int × Int
def nthP (l : List Pt) (i : Nat) : Pt := l.getD i (0, 0, 0, 0)
def clipL (D : List Int) (f n : Int) : List Value := .int .i64 1 :: (D.map (Value.int .u8) ++ [.int .i64 f, .int .i64 n, .int .i64 0, .int .i64 0, .slice none 0 0, .slice none 0 0])
def encP (D : List Int) (p : Pt) : List Value := .int .i64 p.1 :: .int .i64 0 :: .int .i64 p.2.1 :: clipL D p.2.2.1 p.2.2.2
def encLP (D : List Int) (l : List Pt) : List Value := l.flatMap (encP D)
def bV (L : List Int) : Array Value := (L.map (Value.int .u8)).toArray
theorem bV_size (L : List Int) : (bV L).size = L.length := by simp [bV]
theorem encP_len {D : List Int} (hD : D.length = 32) (p : Pt) : (encP D p).length = 42 := by simp [encP, clipL, hD]
theorem encLP_len {D : List Int} (hD : D.length = 32) (l : List Pt) : (encLP D l).length = l.length * 42 := by
  induction l with
  | nil => rfl
  | cons m l ih => simp only [encLP, List.flatMap_cons, List.length_append, List.length_cons] at *; rw [ih, encP_len hD]; omega
theorem encLP_get {D : List Int} (hD : D.length = 32) (l : List Pt) : ∀ i j, i < l.length → j < 42 → (encLP D l)[i * 42 + j]? = (encP D (nthP l i))[j]? := by
  induction l with
  | nil => intro i j hi; simp at hi
  | cons m l ih =>
    intro i j hi hj
    cases i with
    | zero =>
      simp only [encLP, List.flatMap_cons, Nat.zero_mul, Nat.zero_add]
      rw [List.getElem?_append_left (by rw [encP_len hD]; exact hj)]
      rfl
    | succ i =>
      have h := ih i j (by simpa using hi) hj
      simp only [encLP, List.flatMap_cons] at h ⊢
      rw [List.getElem?_append_right (by rw [encP_len hD]; omega), encP_len hD, show (i + 1) * 42 + j - 42 = i * 42 + j by omega]
      exact h
theorem encLP_app (D : List Int) (l k : List Pt) : encLP D (l ++ k) = encLP D l ++ encLP D k := by simp [encLP]
theorem encLP_one (D : List Int) (m : Pt) : encLP D [m] = encP D m := by simp [encLP]
theorem clipL_cells (D : List Int) (f n : Int) : ∀ u ∈ clipL D f n, u.oneCell' = true := by
  intro u hu
  simp [clipL] at hu
  rcases hu with rfl | ⟨x, _, rfl⟩ | rfl | rfl | rfl | rfl <;> rfl
theorem encP_cells (D : List Int) (m : Pt) : ∀ u ∈ encP D m, u.oneCell' = true := by
  intro u hu
  simp only [encP, List.mem_cons] at hu
  rcases hu with rfl | rfl | rfl | hu
  · rfl
  · rfl
  · rfl
  · exact clipL_cells _ _ _ u hu
def PsO (D : List Int) (w : World) (B : Nat) (v : Value) (l : List Pt) : Prop := w.ownsRow B 43 42 v l.length (encLP D l)
theorem PsO.nil (D : List Int) (w : World) (B : Nat) : PsO D w B (.slice none 0 0) [] := World.ownsRow_nil _ _ _ _
theorem PsO.alloc {D : List Int} {w : World} {B : Nat} {v : Value} {l : List Pt} (h : PsO D w B v l) (o : Obj) : PsO D (w.alloc o) B v l := World.ownsRow.alloc h o
theorem PsO.mono {D : List Int} {w : World} {B B' : Nat} {v : Value} {l : List Pt} (h : PsO D w B v l) (hB : B' ≤ B) : PsO D w B' v l := by
  refine ⟨h.1, ?_⟩
  rcases h.2 with h0 | ⟨g, cap, cur, h1, h2, h3⟩
  · exact .inl h0
  · exact .inr ⟨g, cap, cur, h1, by omega, h3⟩
theorem PsO.below {D : List Int} {w w' : World} {B B' : Nat} {v : Value} {l : List Pt} (h : PsO D w B v l) (hb : Below B' w w') (hB : w.heap.size ≤ B') : PsO D w' B v l := by
  refine ⟨h.1, ?_⟩
  rcases h.2 with h0 | ⟨g, cap, cur, h1, h2, h3, h4⟩
  · exact .inl h0
  · exact .inr ⟨g, cap, cur, h1, h2, (hb.block g (Nat.lt_of_lt_of_le (Array.getElem?_eq_some_iff.1 h3).1 hB)).trans h3, h4⟩
/-- Places in memory. -/
def PsV (D : List Int) (w : World) (a : Option Addr) (n b : Nat) (l : List Pt) : Prop :=
  l.length = n ∧ (0 < n → a = some ⟨b, 0, none⟩ ∧ b < w.heap.size) ∧ ∀ i j, i < n → j < 42 → w.cell? ⟨b, i * 42 + j, none⟩ = (encP D (nthP l i))[j]?
theorem PsV.grown {D : List Int} {w w' : World} {a : Option Addr} {n b : Nat} {l : List Pt} (h : PsV D w a n b l) (hb : Below w.heap.size w w') : PsV D w' a n b l :=
  ⟨h.1, fun k => ⟨(h.2.1 k).1, Nat.lt_of_lt_of_le (h.2.1 k).2 hb.size⟩, fun i j hi hj => (hb.cell (p := ⟨b, _, none⟩) (h.2.1 (by omega)).2).trans (h.2.2 i j hi hj)⟩
theorem PsO.s {D : List Int} (hD : D.length = 32) {w : World} {B : Nat} {v : Value} {l : List Pt} (h : PsO D w B v l) : ∃ a b cap, v = .slice a l.length cap ∧ PsV D w a l.length b l ∧ cap ≤ maxLen := by
  rcases h.2 with ⟨h0, hn⟩ | ⟨g, cap, cur, h1, h2, h3, h4, h5, h6, h7⟩
  · exact ⟨none, 0, 0, by rw [hn]; exact h0, ⟨rfl, fun h => by omega, fun i j hi => by omega⟩, by simp [maxLen]⟩
  · refine ⟨some ⟨g, 0, none⟩, g, cap, h1, ⟨rfl, fun _ => ⟨rfl, (Array.getElem?_eq_some_iff.1 h3).1⟩, fun i j hi hj => ?_⟩, h5⟩
    subst h1
    exact (World.ownsRow.cellAt h (i * 42 + j) (by omega)).trans (encLP_get hD l i j hi hj)
theorem info_P : (Try.prog.info? 43).map (fun i => (i.zero, i.size, i.bytes)) = some (some (.agg (List.toArray (.int .i64 0 :: .int .i64 0 :: .int .i64 0 :: .int .i64 0 :: .int .u8 0 :: .int .u8 0 :: .int .u8 0 :: .int .u8 0 :: .int .u8 0 :: .int .u8 0 :: .int .u8 0 :: .int .u8 0 :: .int .u8 0 :: .int .u8 0 :: .int .u8 0 :: .int .u8 0 :: .int .u8 0 :: .int .u8 0 :: .int .u8 0 :: .int .u8 0 :: .int .u8 0 :: .int .u8 0 :: .int .u8 0 :: .int .u8 0 :: .int .u8 0 :: .int .u8 0 :: .int .u8 0 :: .int .u8 0 :: .int .u8 0 :: .int .u8 0 :: .int .u8 0 :: .int .u8 0 :: .int .u8 0 :: .int .u8 0 :: .int .u8 0 :: .int .u8 0 :: .int .i64 0 :: .int .i64 0 :: .int .i64 0 :: .int .i64 0 :: .slice none 0 0 :: .slice none 0 0 :: []))), 42, 144) := by kernel_rfl
section
variable {ops : Array Oper} {o : Oper} {rest : List Oper} {a : Act} {Q : Exit → Act → World → Prop} {w : World}
theorem wp_append_P {K : Act → World → Prop} (s x : Operand) (ho : o.op = .call { callee := .builtin .append, args := #[s, x], argTypes := #[35, 35] })
    (D : List Int) (hD : D.length = 32) (B : Nat) (v : Value) (l : List Pt) (hs : a.eval s = v) (hown : PsO D w B v l) (g : Nat) (m : Pt) (hx : a.eval x = .slice (some ⟨g, 0, none⟩) 1 1) (tb : TypeId) (fr : Nat × Nat)
    (hc : w.heap[g]? = some (.cells (encP D m).toArray tb fr)) (hlen : l.length ≤ 120000) (hB : B ≤ w.heap.size)
    (h : ∀ v' w', PsO D w' B v' (l ++ [m]) → Below B w w' → w.grownBy w' v.ownBlock → K (a.put o.dst v') w') : o.wp Try.prog a w K Q := by
  obtain ⟨i0, hi, hz0, hz1, hz2⟩ := info_parts info_P
  refine wp_append_own w s x 35 ho B 43 i0 (.agg (List.toArray (.int .i64 0 :: .int .i64 0 :: .int .i64 0 :: .int .i64 0 :: .int .u8 0 :: .int .u8 0 :: .int .u8 0 :: .int .u8 0 :: .int .u8 0 :: .int .u8 0 :: .int .u8 0 :: .int .u8 0 :: .int .u8 0 :: .int .u8 0 :: .int .u8 0 :: .int .u8 0 :: .int .u8 0 :: .int .u8 0 :: .int .u8 0 :: .int .u8 0 :: .int .u8 0 :: .int .u8 0 :: .int .u8 0 :: .int .u8 0 :: .int .u8 0 :: .int .u8 0 :: .int .u8 0 :: .int .u8 0 :: .int .u8 0 :: .int .u8 0 :: .int .u8 0 :: .int .u8 0 :: .int .u8 0 :: .int .u8 0 :: .int .u8 0 :: .int .u8 0 :: .int .i64 0 :: .int .i64 0 :: .int .i64 0 :: .int .i64 0 :: .slice none 0 0 :: .slice none 0 0 :: []))) 42 144 Try.underlying35 hi hz0 hz1 hz2 rfl (by decide) v l.length _ hs hown ⟨g, 0, none⟩ 1 1 (encP D m) hx (encP_len hD m) ?_ ?_ (by unfold maxLen; omega) (by omega) hB ?_
  · exact fun j u hj => World.news_of_block hc j u (by simpa using hj)
  · exact encP_cells D m
  · intro v' w' h1 h2 _
    refine h v' w' ?_ ((Below.refl B w).grown h2 hB fun k hk => (World.ownsRow.lt hown k hk).1) h2
    unfold PsO
    rw [encLP_app, encLP_one, List.length_append]
    exact h1
theorem wpList_append_P (hgd : o.guard = none) (s x : Operand) (ho : o.op = .call { callee := .builtin .append, args := #[s, x], argTypes := #[35, 35] })
    (D : List Int) (hD : D.length = 32) (B : Nat) (v : Value) (l : List Pt) (hs : a.eval s = v) (hown : PsO D w B v l) (g : Nat) (m : Pt) (hx : a.eval x = .slice (some ⟨g, 0, none⟩) 1 1) (tb : TypeId) (fr : Nat × Nat)
    (hc : w.heap[g]? = some (.cells (encP D m).toArray tb fr)) (hlen : l.length ≤ 120000) (hB : B ≤ w.heap.size)
    (h : ∀ v' w', PsO D w' B v' (l ++ [m]) → Below B w w' → w.grownBy w' v.ownBlock → wpList Try.prog ops Q rest (a.put o.dst v') w') : wpList Try.prog ops Q (o :: rest) a w :=
  wpList_plain hgd fun _ hK => wp_append_P s x ho D hD B v l hs hown g m hx tb fr hc hlen hB fun v' w' h1 h2 h3 => hK _ _ (h v' w' h1 h2 h3)
end
theorem list32 {D : List Int} (h : D.length = 32) : ∃ d0 d1 d2 d3 d4 d5 d6 d7 d8 d9 d10 d11 d12 d13 d14 d15 d16 d17 d18 d19 d20 d21 d22 d23 d24 d25 d26 d27 d28 d29 d30 d31 : Int, D = [d0, d1, d2, d3, d4, d5, d6, d7, d8, d9, d10, d11, d12, d13, d14, d15, d16, d17, d18, d19, d20, d21, d22, d23, d24, d25, d26, d27, d28, d29, d30, d31] := by
  have e : D = (List.range 32).map fun i => D.getD i 0 := by
    refine List.ext_getElem (by simp [h]) fun i h1 h2 => ?_
    simp [List.getD_eq_getElem?_getD, h1]
  exact ⟨_, _, _, _, _, _, _, _, _, _, _, _, _, _, _, _, _, _, _, _, _, _, _, _, _, _, _, _, _, _, _, _, e⟩

def okPl (x : Dt) : Prop := (0 ≤ x.1 ∧ x.1 ≤ 16777216) ∧ (0 ≤ x.2.2.1 ∧ x.2.2.1 ≤ 16777216) ∧ (1 ≤ x.2.1 ∧ x.2.1 ≤ 16777216)
instance (x : Dt) : Decidable (okPl x) := by unfold okPl; exact inferInstance
def plTo (l : List Dt) (k : Nat) : List Pt := (List.range k).map fun i => (((i + 1 : Nat) : Int), (nthD l i).2.2.1, (nthD l i).1, (nthD l i).2.1)
theorem plTo_succ (l : List Dt) (k : Nat) : plTo l (k + 1) = plTo l k ++ [(((k + 1 : Nat) : Int), (nthD l k).2.2.1, (nthD l k).1, (nthD l k).2.1)] := by unfold plTo; rw [List.range_succ, List.map_append]; rfl
theorem plTo_len (l : List Dt) (k : Nat) : (plTo l k).length = k := by simp [plTo]
def allPl (l : List Dt) : Prop := ∀ i, i < l.length → okPl (nthD l i)
instance (l : List Dt) : Decidable (allPl l) := by unfold allPl; exact inferInstance
def plcS (l : List Dt) : Int × List Pt := if 256 < l.length then (2, []) else if allPl l then (0, plTo l l.length) else (310, [])
theorem plcS_many {l : List Dt} (h : 256 < l.length) : plcS l = (2, []) := if_pos h
theorem plcS_yes {l : List Dt} (h : ¬ 256 < l.length) (h2 : allPl l) : plcS l = (0, plTo l l.length) := (if_neg h).trans (if_pos h2)
theorem plcS_no {l : List Dt} (h : ¬ 256 < l.length) (h2 : ¬ allPl l) : plcS l = (310, []) := (if_neg h).trans (if_neg h2)
set_option maxRecDepth 100000 in
set_option maxHeartbeats 8000000 in
theorem places_any (a : Option Addr) (n cap b off : Nat) (l : List Dt) (D : List Int) (hD : D.length = 32) (w : World) (h : Ds w a n b off l) (hn : n ≤ 9223372036854775807) :
    Calls Try.prog 16 #[.slice a n cap, .agg (bV D)] w fun e w' => ∃ v, e = .returned (.tuple #[v, .int .i64 (plcS l).1]) ∧ PsO D w' w.heap.size v (plcS l).2 ∧ Below w.heap.size w w' := by
  obtain ⟨d0, d1, d2, d3, d4, d5, d6, d7, d8, d9, d10, d11, d12, d13, d14, d15, d16, d17, d18, d19, d20, d21, d22, d23, d24, d25, d26, d27, d28, d29, d30, d31, rfl⟩ := list32 hD
  replace hD : ([d0, d1, d2, d3, d4, d5, d6, d7, d8, d9, d10, d11, d12, d13, d14, d15, d16, d17, d18, d19, d20, d21, d22, d23, d24, d25, d26, d27, d28, d29, d30, d31] : List Int).length = 32 := rfl
  have hDV : bV [d0, d1, d2, d3, d4, d5, d6, d7, d8, d9, d10, d11, d12, d13, d14, d15, d16, d17, d18, d19, d20, d21, d22, d23, d24, d25, d26, d27, d28, d29, d30, d31] = #[.int .u8 d0, .int .u8 d1, .int .u8 d2, .int .u8 d3, .int .u8 d4, .int .u8 d5, .int .u8 d6, .int .u8 d7, .int .u8 d8, .int .u8 d9, .int .u8 d10, .int .u8 d11, .int .u8 d12, .int .u8 d13, .int .u8 d14, .int .u8 d15, .int .u8 d16, .int .u8 d17, .int .u8 d18, .int .u8 d19, .int .u8 d20, .int .u8 d21, .int .u8 d22, .int .u8 d23, .int .u8 d24, .int .u8 d25, .int .u8 d26, .int .u8 d27, .int .u8 d28, .int .u8 d29, .int .u8 d30, .int .u8 d31] := rfl
  rw [hDV]
  have hlen := h.1
  obtain ⟨W0, hW0⟩ : ∃ W0, W0 = w.alloc (.cells #[.int .u8 d0, .int .u8 d1, .int .u8 d2, .int .u8 d3, .int .u8 d4, .int .u8 d5, .int .u8 d6, .int .u8 d7, .int .u8 d8, .int .u8 d9, .int .u8 d10, .int .u8 d11, .int .u8 d12, .int .u8 d13, .int .u8 d14, .int .u8 d15, .int .u8 d16, .int .u8 d17, .int .u8 d18, .int .u8 d19, .int .u8 d20, .int .u8 d21, .int .u8 d22, .int .u8 d23, .int .u8 d24, .int .u8 d25, .int .u8 d26, .int .u8 d27, .int .u8 d28, .int .u8 d29, .int .u8 d30, .int .u8 d31] 34) := ⟨_, rfl⟩
  have hB0 : Below w.heap.size w W0 := by rw [hW0]; go_grown
  have hD0 : W0.heap[w.heap.size]? = some (.cells #[.int .u8 d0, .int .u8 d1, .int .u8 d2, .int .u8 d3, .int .u8 d4, .int .u8 d5, .int .u8 d6, .int .u8 d7, .int .u8 d8, .int .u8 d9, .int .u8 d10, .int .u8 d11, .int .u8 d12, .int .u8 d13, .int .u8 d14, .int .u8 d15, .int .u8 d16, .int .u8 d17, .int .u8 d18, .int .u8 d19, .int .u8 d20, .int .u8 d21, .int .u8 d22, .int .u8 d23, .int .u8 d24, .int .u8 d25, .int .u8 d26, .int .u8 d27, .int .u8 d28, .int .u8 d29, .int .u8 d30, .int .u8 d31] 34 (0, 0)) := by rw [hW0]; exact blk_new _ _
  have hsz0 : W0.heap.size ≤ w.heap.size + 1 := by rw [hW0]; simp
  have hM := h.grown hB0
  have ha := h.2.1
  clear h
  by_cases hn2 : 256 < n
  · rw [plcS_many (by rw [hlen]; exact hn2)]
    clear hM ha hD0
    go_enter Try.func16, Try.ntmps16
    go_upto_region 1 with fail
    rw [← hW0]
    clear hW0
    go_wp2
    exact bodyPost_ret (v := .tuple #[.slice none 0 0, .int .i64 2]) (by simp [results, Try.results16, go_sem]) rfl ⟨_, rfl, PsO.nil _ _ _, hB0⟩
  have HM := Lib.hid (show _ ∧ _ ∧ _ ∧ _ from ⟨hM, ha, hD0, hB0⟩)
  clear hM ha hD0 hB0
  go_enter Try.func16, Try.ntmps16
  go_upto_region 1 with fail
  rw [← hW0]
  clear hW0
  go_wp2
  go_loopw [4, 14] (fun s i wr => ∃ k : Nat, k ≤ n ∧ i = .int .i64 k ∧ PsO [d0, d1, d2, d3, d4, d5, d6, d7, d8, d9, d10, d11, d12, d13, d14, d15, d16, d17, d18, d19, d20, d21, d22, d23, d24, d25, d26, d27, d28, d29, d30, d31] wr (w.heap.size + 1) s (plTo l k) ∧ (∀ j, j < k → okPl (nthD l j)) ∧ wr.heap[w.heap.size]? = some (.cells #[.int .u8 d0, .int .u8 d1, .int .u8 d2, .int .u8 d3, .int .u8 d4, .int .u8 d5, .int .u8 d6, .int .u8 d7, .int .u8 d8, .int .u8 d9, .int .u8 d10, .int .u8 d11, .int .u8 d12, .int .u8 d13, .int .u8 d14, .int .u8 d15, .int .u8 d16, .int .u8 d17, .int .u8 d18, .int .u8 d19, .int .u8 d20, .int .u8 d21, .int .u8 d22, .int .u8 d23, .int .u8 d24, .int .u8 d25, .int .u8 d26, .int .u8 d27, .int .u8 d28, .int .u8 d29, .int .u8 d30, .int .u8 d31] 34 (0, 0)) ∧ Below W0.heap.size W0 wr ∧ Below w.heap.size w wr) (fun _ i _ => n - (intOf i).toNat)
  case atStart => exact ⟨0, Nat.zero_le _, rfl, PsO.nil _ _ _, fun j hj => by omega, HM.out.2.2.1, Below.refl _ _, HM.out.2.2.2⟩
  case round =>
    obtain ⟨k, hk, rfl, hO, hok, hd, hb0, hb⟩ := hrel
    by_cases hlt : k < n
    case neg =>
      obtain rfl : k = n := by omega
      have E0 := Lib.hid (plcS_yes (l := l) (by omega) (fun i hi => hok i (by omega)))
      have HR := Lib.hid (show _ ∧ _ from ⟨hO, hb⟩)
      clear hO hok hd hb0 hb
      go_wp2
      exact bodyPost_ret (v := .tuple #[u4, .int .i64 0]) (by simp [results, Try.results16, go_sem]) rfl ⟨u4, by rw [E0.out], by rw [E0.out, hlen]; exact HR.out.1.mono (by omega), HR.out.2⟩
    obtain ⟨rfl, hbw⟩ := HM.out.2.1 (by omega)
    obtain ⟨r0, r1, r2, r3⟩ := (HM.out.1.grown hb0).2.2 k hlt
    have hbad : ¬ okPl (nthD l k) → plcS l = (310, []) := fun hx => plcS_no (by omega) fun g => hx (g k (by omega))
    have hnx : okPl (nthD l k) → ∀ j, j < k + 1 → okPl (nthD l j) := fun hx j hj => by
      by_cases e : j = k
      · subst e; exact hx
      · exact hok j (by omega)
    have hps := plTo_succ l k
    have hpl := plTo_len l k
    generalize nthD l k = x at *
    obtain ⟨x0, x1, x2, x3⟩ := x
    dsimp only at r0 r1 r2 r3
    have HX := Lib.hid (show _ ∧ _ ∧ _ ∧ _ from ⟨hbad, hnx, hps, hpl⟩)
    obtain ⟨W2, hW2⟩ : ∃ W2, W2 = wr.alloc (.cells #[.int .i64 x0, .int .i64 x1, .int .i64 x2, .int .i64 x3] 52) := ⟨_, rfl⟩
    have hb2 : Below wr.heap.size wr W2 := by rw [hW2]; exact (Below.refl _ _).alloc (Nat.le_refl _) _
    have hx2 : W2.heap[wr.heap.size]? = some (.cells #[.int .i64 x0, .int .i64 x1, .int .i64 x2, .int .i64 x3] 52 (0, 0)) := by rw [hW2]; exact blk_new _ _
    have s0 := blk_cell hx2 0; have s1 := blk_cell hx2 1; have s2 := blk_cell hx2 2
    simp at s0 s1 s2
    have hsz := hb.size
    have hszr := hb2.size
    have hlx := (Array.getElem?_eq_some_iff.1 hx2).1
    have H2 := Lib.hid (show _ ∧ _ ∧ _ ∧ _ ∧ _ from ⟨below_after hb hb2 hsz, below_after hb0 hb2 hb0.size, blk_below hd hb2 (Array.getElem?_eq_some_iff.1 hd).1, hO.below hb2 (Nat.le_refl _), hx2⟩)
    clear hbad hnx hps hpl hO hok hd hb0 hb hb2 hx2
    by_cases q0 : 0 ≤ x0 ∧ x0 ≤ 16777216
    case neg =>
      have v0 := within_f q0
      have E0 := Lib.hid (HX.out.1 fun h => q0 h.1)
      clear q0
      go_upto_region 6 with fail
      rw [← hW2]
      clear hW2 r0 r1 r2 r3
      go_wp2_with (first | (go_at_call 27; refine (within_any _ _ _ _).mono ?_; rintro e w' ⟨rfl, rfl⟩))
      exact bodyPost_ret (v := .tuple #[.slice none 0 0, .int .i64 310]) (by simp [results, Try.results16, go_sem]) rfl ⟨.slice none 0 0, by rw [E0.out], by rw [E0.out]; exact PsO.nil _ _ _, H2.out.1⟩

    by_cases q1 : 0 ≤ x2 ∧ x2 ≤ 16777216
    case neg =>
      have v0 := within_t q0
      have v1 := within_f q1
      have E0 := Lib.hid (HX.out.1 fun h => q1 h.2.1)
      clear q0 q1
      go_upto_region 6 with fail
      rw [← hW2]
      clear hW2 r0 r1 r2 r3
      go_wp2_with (first | (go_at_call 27; refine (within_any _ _ _ _).mono ?_; rintro e w' ⟨rfl, rfl⟩))
      exact bodyPost_ret (v := .tuple #[.slice none 0 0, .int .i64 310]) (by simp [results, Try.results16, go_sem]) rfl ⟨.slice none 0 0, by rw [E0.out], by rw [E0.out]; exact PsO.nil _ _ _, H2.out.1⟩

    by_cases q2 : 1 ≤ x1 ∧ x1 ≤ 16777216
    case neg =>
      have v0 := within_t q0
      have v1 := within_t q1
      have v2 := within_f q2
      have E0 := Lib.hid (HX.out.1 fun h => q2 h.2.2)
      clear q0 q1 q2
      go_upto_region 6 with fail
      rw [← hW2]
      clear hW2 r0 r1 r2 r3
      go_wp2_with (first | (go_at_call 27; refine (within_any _ _ _ _).mono ?_; rintro e w' ⟨rfl, rfl⟩))
      exact bodyPost_ret (v := .tuple #[.slice none 0 0, .int .i64 310]) (by simp [results, Try.results16, go_sem]) rfl ⟨.slice none 0 0, by rw [E0.out], by rw [E0.out]; exact PsO.nil _ _ _, H2.out.1⟩

    have v0 := within_t q0
    have v1 := within_t q1
    have v2 := within_t q2
    have N := Lib.hid (HX.out.2.1 ⟨q0, q1, q2⟩)
    go_upto_region 6 with fail
    rw [← hW2]
    clear hW2 r0 r1 r2 r3
    go_upto_region 8 with (first | (go_at_call 27; refine (within_any _ _ _ _).mono ?_; rintro e w' ⟨rfl, rfl⟩))
    clear v0 v1 v2
    go_wp2_with (first | (with_reducible refine halt_at (o := ⟨some 35, _, _, _, _, _⟩) ?_))
    unfold Halt
    refine wpList_load_row rfl _ (.tmp 3) rfl w.heap.size rfl 34 #[.int .u8 d0, .int .u8 d1, .int .u8 d2, .int .u8 d3, .int .u8 d4, .int .u8 d5, .int .u8 d6, .int .u8 d7, .int .u8 d8, .int .u8 d9, .int .u8 d10, .int .u8 d11, .int .u8 d12, .int .u8 d13, .int .u8 d14, .int .u8 d15, .int .u8 d16, .int .u8 d17, .int .u8 d18, .int .u8 d19, .int .u8 d20, .int .u8 d21, .int .u8 d22, .int .u8 d23, .int .u8 d24, .int .u8 d25, .int .u8 d26, .int .u8 d27, .int .u8 d28, .int .u8 d29, .int .u8 d30, .int .u8 d31] (0, 0) _ H2.out.2.2.1 Try.underlying34 rfl (by kernel_rfl) ?_
    go_wp2_with (first | (with_reducible refine halt_at (o := ⟨none, _, _, _, _, _⟩) ?_))
    unfold Halt
    refine wpList_store_row rfl 41 (.tmp 8) (.tmp 40) rfl W2.heap.size (List.toArray (clipL [d0, d1, d2, d3, d4, d5, d6, d7, d8, d9, d10, d11, d12, d13, d14, d15, d16, d17, d18, d19, d20, d21, d22, d23, d24, d25, d26, d27, d28, d29, d30, d31] x0 x1)) rfl rfl _ _ (blk_new _ _) (by kernel_rfl) (by rfl) (by kernel_rfl) ?_
    have hz := setRow_heap _ W2.heap.size _ (List.toArray (clipL [d0, d1, d2, d3, d4, d5, d6, d7, d8, d9, d10, d11, d12, d13, d14, d15, d16, d17, d18, d19, d20, d21, d22, d23, d24, d25, d26, d27, d28, d29, d30, d31] x0 x1)) 41 (0, 0) (blk_new W2 (.cells (List.toArray (.int .i64 0 :: .int .u8 0 :: .int .u8 0 :: .int .u8 0 :: .int .u8 0 :: .int .u8 0 :: .int .u8 0 :: .int .u8 0 :: .int .u8 0 :: .int .u8 0 :: .int .u8 0 :: .int .u8 0 :: .int .u8 0 :: .int .u8 0 :: .int .u8 0 :: .int .u8 0 :: .int .u8 0 :: .int .u8 0 :: .int .u8 0 :: .int .u8 0 :: .int .u8 0 :: .int .u8 0 :: .int .u8 0 :: .int .u8 0 :: .int .u8 0 :: .int .u8 0 :: .int .u8 0 :: .int .u8 0 :: .int .u8 0 :: .int .u8 0 :: .int .u8 0 :: .int .u8 0 :: .int .u8 0 :: .int .i64 0 :: .int .i64 0 :: .int .i64 0 :: .int .i64 0 :: .slice none 0 0 :: .slice none 0 0 :: [])) 41))
    have hb4 : Below W2.heap.size W2 ((W2.alloc (.cells (List.toArray (.int .i64 0 :: .int .u8 0 :: .int .u8 0 :: .int .u8 0 :: .int .u8 0 :: .int .u8 0 :: .int .u8 0 :: .int .u8 0 :: .int .u8 0 :: .int .u8 0 :: .int .u8 0 :: .int .u8 0 :: .int .u8 0 :: .int .u8 0 :: .int .u8 0 :: .int .u8 0 :: .int .u8 0 :: .int .u8 0 :: .int .u8 0 :: .int .u8 0 :: .int .u8 0 :: .int .u8 0 :: .int .u8 0 :: .int .u8 0 :: .int .u8 0 :: .int .u8 0 :: .int .u8 0 :: .int .u8 0 :: .int .u8 0 :: .int .u8 0 :: .int .u8 0 :: .int .u8 0 :: .int .u8 0 :: .int .i64 0 :: .int .i64 0 :: .int .i64 0 :: .int .i64 0 :: .slice none 0 0 :: .slice none 0 0 :: [])) 41)).setRow W2.heap.size (List.toArray (clipL [d0, d1, d2, d3, d4, d5, d6, d7, d8, d9, d10, d11, d12, d13, d14, d15, d16, d17, d18, d19, d20, d21, d22, d23, d24, d25, d26, d27, d28, d29, d30, d31] x0 x1))) := below_setRow ((Below.refl _ _).alloc (Nat.le_refl _) _) (Nat.le_refl _) _
    have H4 := Lib.hid (show _ ∧ _ ∧ _ ∧ _ ∧ _ ∧ _ from ⟨below_after H2.out.1 hb4 H2.out.1.size, below_after H2.out.2.1 hb4 H2.out.2.1.size, blk_below H2.out.2.2.1 hb4 (Array.getElem?_eq_some_iff.1 H2.out.2.2.1).1, H2.out.2.2.2.1.below hb4 (Nat.le_refl _), blk_below H2.out.2.2.2.2 hb4 hlx, hz⟩)
    have hs4 := hb4.size
    clear hz hb4 H2 s0 s1
    generalize (W2.alloc (.cells (List.toArray (.int .i64 0 :: .int .u8 0 :: .int .u8 0 :: .int .u8 0 :: .int .u8 0 :: .int .u8 0 :: .int .u8 0 :: .int .u8 0 :: .int .u8 0 :: .int .u8 0 :: .int .u8 0 :: .int .u8 0 :: .int .u8 0 :: .int .u8 0 :: .int .u8 0 :: .int .u8 0 :: .int .u8 0 :: .int .u8 0 :: .int .u8 0 :: .int .u8 0 :: .int .u8 0 :: .int .u8 0 :: .int .u8 0 :: .int .u8 0 :: .int .u8 0 :: .int .u8 0 :: .int .u8 0 :: .int .u8 0 :: .int .u8 0 :: .int .u8 0 :: .int .u8 0 :: .int .u8 0 :: .int .u8 0 :: .int .i64 0 :: .int .i64 0 :: .int .i64 0 :: .int .i64 0 :: .slice none 0 0 :: .slice none 0 0 :: [])) 41)).setRow W2.heap.size (List.toArray (clipL [d0, d1, d2, d3, d4, d5, d6, d7, d8, d9, d10, d11, d12, d13, d14, d15, d16, d17, d18, d19, d20, d21, d22, d23, d24, d25, d26, d27, d28, d29, d30, d31] x0 x1)) = W4 at *
    have t2 := blk_cell H4.out.2.2.2.2.1 2
    simp at t2
    clear s2
    go_upto_region 9 with fail
    go_wp2_with (first | (with_reducible refine halt_at (o := ⟨some 46, _, _, _, _, _⟩) ?_))
    unfold Halt
    refine wpList_load_row rfl _ (.tmp 8) rfl W2.heap.size rfl 41 (List.toArray (clipL [d0, d1, d2, d3, d4, d5, d6, d7, d8, d9, d10, d11, d12, d13, d14, d15, d16, d17, d18, d19, d20, d21, d22, d23, d24, d25, d26, d27, d28, d29, d30, d31] x0 x1)) (0, 0) _ H4.out.2.2.2.2.2 Try.underlying41 rfl (by kernel_rfl) ?_
    unfold clipL
    simp only [List.map_cons, List.map_nil, List.cons_append, List.nil_append]
    go_wp2_with (first | (with_reducible refine halt_at (o := ⟨some 49, _, _, _, _, _⟩) ?_))
    unfold Halt
    refine wpList_append_P rfl (.tmp 41) (.tmp 48) rfl [d0, d1, d2, d3, d4, d5, d6, d7, d8, d9, d10, d11, d12, d13, d14, d15, d16, d17, d18, d19, d20, d21, d22, d23, d24, d25, d26, d27, d28, d29, d30, d31] hD (w.heap.size + 1) _ (plTo l k) (by rfl) (H4.out.2.2.2.1.alloc _) W4.heap.size ((k : Int) + 1, x2, x0, x1) (by rfl) 43 (0, 0) (by exact blk_new _ _) (by rw [HX.out.2.2.2]; omega) (by rw [World.size_alloc]; omega) ?_
    intro v5 w5 hO5 hB5 _
    have hB5' : Below (w.heap.size + 1) W4 w5 := ((Below.refl _ _).alloc (by omega) _).trans hB5
    have hb5 : Below w.heap.size w w5 := H4.out.1.trans (hB5'.mono (by omega))
    have hb50 : Below W0.heap.size W0 w5 := H4.out.2.1.trans (hB5'.mono hsz0)
    have H5 := Lib.hid (show _ ∧ _ ∧ _ ∧ _ from ⟨hO5, hb5, hb50, blk_below H4.out.2.2.1 hB5' (by omega)⟩)
    clear hO5 hB5 hB5' hb5 hb50 t2
    go_wp2
    go_roundw
    case rel => exact ⟨k + 1, by omega, by go_num, by rw [HX.out.2.2.1, Int.natCast_succ]; exact H5.out.1, N.out, H5.out.2.2.2, H5.out.2.2.1, H5.out.2.1⟩
    case measure => simp [intOf]; omega
end Go.Proofs.Ythnhnmmabjmjgaa
