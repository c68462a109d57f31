/- A full row with another appended; the bytes of a string; the cells of a digest (layer 2). -/
import Derived.Test.YthbjjfblapfjdaaDoorDigSum
import Derived.Deep.Upon
import Derived.Laws.IdiomStrings
namespace Go.Proofs.YthbjjfblapfjdaaDoor
open Go.ChangeShapes Go.WideShapes Go.ChangeAt Go.RowKit

variable {ops : Array Oper} {o : Oper} {a : Act} {Q : Exit → Act → World → Prop} {w : World}

theorem RowB.cells {w : World} {b off n : Nat} {l : List Int} (h : RowB w (some ⟨b, off, none⟩) b off n l) : ∀ j u, (l.map (Value.int .u8))[j]? = some u → w.cell? ((⟨b, off, none⟩ : Addr).add j) = some u := by
  intro j u hj
  have hjn : j < n := by
    have := (List.getElem?_eq_some_iff.1 hj).1
    rw [List.length_map, h.len] at this
    exact this
  have hc := h.cel j hjn
  rw [← Go.WideShapes.add_plain] at hc
  rw [hc]
  rw [List.getElem?_map] at hj
  simp only [List.getD_eq_getElem?_getD]
  cases hq : l[j]? with
  | none => rw [hq] at hj; simp at hj
  | some y => rw [hq] at hj; simpa using hj
theorem map_one (l : List Int) : ∀ u ∈ l.map (Value.int .u8), u.oneCell' = true := by
  intro u hu
  obtain ⟨y, _, rfl⟩ := List.mem_map.1 hu
  rfl
/-- 'append(v, x...)', where v has no room. -/
theorem wp_append_full {K : Act → World → Prop} (s x : Operand) (ho : o.op = .call { callee := .builtin .append, args := #[s, x], argTypes := #[22, 22] })
    (g p : Nat) (l1 : List Int) (hs : a.eval s = .slice (some ⟨g, 0, none⟩) p p) (h1 : RowB w (some ⟨g, 0, none⟩) g 0 p l1) (ax : Option Addr) (b off n c : Nat) (l2 : List Int) (hx : a.eval x = .slice ax n c) (hr : RowB w ax b off n l2) (hnc : ax = none → c = 0)
    (hlen : p + n ≤ 1000000)
    (h : ∀ b' c' w', RowB w' (some ⟨b', 0, none⟩) b' 0 (p + n) (l1 ++ l2) → p + n ≤ c' → Below w.heap.size w w' → K (a.put o.dst (.slice (some ⟨b', 0, none⟩) (p + n) c')) w') : o.wp Tryd.prog a w K Q := by
  obtain ⟨i0, hi, hz0, hz1, hz2⟩ := info_parts info_u8
  by_cases h0 : n = 0
  · subst h0
    obtain rfl : l2 = [] := List.eq_nil_of_length_eq_zero hr.len
    have hsrc : Src Tryd.prog i0.size 22 (.slice ax 0 c) 0 [] w := by
      cases ax with
      | none => obtain rfl : c = 0 := hnc rfl; exact Src.ofNil w Tryd.underlying22 0
      | some ad => exact Src.ofSlice w Tryd.underlying22 ad 0 c [] (by simp) (by intro j u hj; simp at hj) (by intro u hu; cases hu)
    have hrun := run_append_nothing (P := Tryd.prog) w 22 22 o.type 5 i0 Tryd.underlying22 hi (some ⟨g, 0, none⟩) p p (Nat.le_refl _) _ hsrc
    unfold Oper.wp
    simp [execOp, ho, resolve, invoke, builtin, hs, hx, hrun, Result.andThen]
    exact h g p w (by simpa using h1) (by omega) (Below.refl _ _)
  · have he := hr.adr (by omega)
    subst he
    obtain ⟨v', w', hrun, hw, hg⟩ := run_append_arg_grows (P := Tryd.prog) w 22 o.type 5 i0 (.int .u8 0) 1 1 Tryd.underlying22 hi hz0 hz1 hz2 rfl (by decide) ⟨g, 0, none⟩ p p (l1.map (Value.int .u8)) (by rw [List.length_map, h1.len, Nat.mul_one]) h1.cells ⟨b, off, none⟩ n c (l2.map (Value.int .u8)) (by rw [List.length_map, hr.len, Nat.mul_one]) hr.cells (by omega) (by unfold maxLen; omega) (by omega)
    have hO : Byts w' w.heap.size v' (l1 ++ l2) := by
      unfold Byts
      rw [List.length_append, h1.len, hr.len, List.map_append]
      exact hw
    obtain ⟨a', b', cap, rfl, hR, hc, _⟩ := hO.row
    have hL : (l1 ++ l2).length = p + n := by rw [List.length_append, h1.len, hr.len]
    rw [hL] at hR hc hrun
    have ha := hR.adr (by omega)
    subst ha
    unfold Oper.wp
    simp [execOp, ho, resolve, invoke, builtin, hs, hx, hrun, Result.andThen]
    exact h b' cap w' hR hc ((Below.refl _ _).grown hg (Nat.le_refl _) (fun k hk => by cases hk))

theorem wpList_append_full {rest : List Oper} (hgd : o.guard = none) (s x : Operand) (ho : o.op = .call { callee := .builtin .append, args := #[s, x], argTypes := #[22, 22] })
    (g p : Nat) (l1 : List Int) (hs : a.eval s = .slice (some ⟨g, 0, none⟩) p p) (h1 : RowB w (some ⟨g, 0, none⟩) g 0 p l1) (ax : Option Addr) (b off n c : Nat) (l2 : List Int) (hx : a.eval x = .slice ax n c) (hr : RowB w ax b off n l2) (hnc : ax = none → c = 0)
    (hlen : p + n ≤ 1000000)
    (h : ∀ b' c' w', RowB w' (some ⟨b', 0, none⟩) b' 0 (p + n) (l1 ++ l2) → p + n ≤ c' → Below w.heap.size w w' → wpList Tryd.prog ops Q rest (a.put o.dst (.slice (some ⟨b', 0, none⟩) (p + n) c')) w') : wpList Tryd.prog ops Q (o :: rest) a w :=
  wpList_plain hgd fun _ hK => wp_append_full s x ho g p l1 hs h1 ax b off n c l2 hx hr hnc hlen fun b' c' w' r1 r2 r3 => hK _ _ (h b' c' w' r1 r2 r3)

/-- The bytes of a digest. -/
def dgL (s : St) : List Int := (List.range 32).map (dByte s)
theorem dgL_len (s : St) : (dgL s).length = 32 := by simp [dgL]
theorem RowB.of_dg {w : World} {g : Nat} {s : St} {t : TypeId} (h : w.heap[g]? = some (.cells (dgV s) t (0, 0))) : RowB w (some ⟨g, 0, none⟩) g 0 32 (dgL s) :=
  ⟨dgL_len s, fun _ => rfl, fun _ => (Array.getElem?_eq_some_iff.1 h).1, fun i hi => by
    rw [Nat.zero_add]
    refine (blk_cell h i).trans ?_
    simp [dgV, dgL, List.getD_eq_getElem?_getD, hi]⟩
/-- The bytes of a string. -/
def strL (s : ByteArray) : List Int := s.data.toList.map fun b => (b.toNat : Int)
theorem strL_len (s : ByteArray) : (strL s).length = s.size := by simp [strL]
theorem RowB.of_str {w : World} {g cap : Nat} {s : ByteArray} {t : TypeId} {fr : Nat × Nat} (h : w.heap[g]? = some (.cells (bytesRow s cap) t fr)) : RowB w (some ⟨g, 0, none⟩) g 0 s.size (strL s) :=
  ⟨strL_len s, fun _ => rfl, fun _ => (Array.getElem?_eq_some_iff.1 h).1, fun i hi => by
    rw [Nat.zero_add]
    refine (blk_cell h i).trans ?_
    have hd : i < s.data.size := hi
    rw [bytesRow_at s cap i hd]
    simp only [strL, List.getD_eq_getElem?_getD, List.getElem?_map, Array.getElem?_toList, Array.getElem?_eq_getElem hd, Option.map_some, Option.getD_some]⟩
/-- Tagged's answer. -/
def tagS (s : ByteArray) (l : List Int) : St := sumS (dgL (sumS (strL s)) ++ l)
end Go.Proofs.YthbjjfblapfjdaaDoor
