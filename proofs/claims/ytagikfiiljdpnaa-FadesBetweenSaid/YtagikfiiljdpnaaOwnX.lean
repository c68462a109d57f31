/- A slice of integers that lives in one block, or in those that a loop makes. -/
import Derived.Test.YtagikfiiljdpnaaOwn
import Derived.Test.YtagikfiiljdpnaaSeq
namespace Go.Proofs.Ytagikfiiljdpnaa
open Go.ChangeShapes Go.WideShapes Go.ChangeAt Go.RowKit

/-- It lies in block MK, or in one from BB on. -/
structure IntsX (w : World) (MK BB : Nat) (v : Value) (l : List Int) : Prop where
  own : Ints w MK v l
  loc : ∀ g, v.ownBlock = some g → g = MK ∨ BB ≤ g
/-- Below BB, all but block MK is as it was. -/
structure UpdB (MK BB : Nat) (w w' : World) : Prop where
  os : w'.os = w.os
  tape : w'.tape = w.tape
  output : w'.output = w.output
  size : w.heap.size ≤ w'.heap.size
  block : ∀ k, k < BB → k ≠ MK → w'.heap[k]? = w.heap[k]?
theorem UpdB.trans {MK BB : Nat} {a b c : World} (h : UpdB MK BB a b) (k : UpdB MK BB b c) : UpdB MK BB a c :=
  ⟨k.os.trans h.os, k.tape.trans h.tape, k.output.trans h.output, Nat.le_trans h.size k.size, fun i hi hn => (k.block i hi hn).trans (h.block i hi hn)⟩
theorem UpdB.of_below {MK BB : Nat} {w w' : World} (h : Below BB w w') : UpdB MK BB w w' := ⟨h.os, h.tape, h.output, h.size, fun k hk _ => h.block k hk⟩
theorem UpdB.keep {MK BB k : Nat} {w w' : World} {o : Obj} (h : UpdB MK BB w w') (hk : w.heap[k]? = some o) (h1 : k < BB) (h2 : k ≠ MK) : w'.heap[k]? = some o := (h.block k h1 h2).trans hk
theorem UpdB.cell {MK BB k i : Nat} {w w' : World} {x : Option Value} (h : UpdB MK BB w w') (hk : w.cell? ⟨k, i, none⟩ = x) (h1 : k < BB) (h2 : k ≠ MK) : w'.cell? ⟨k, i, none⟩ = x :=
  (World.cell?_of_block (a := ⟨k, i, none⟩) (h.block k h1 h2)).trans hk
theorem UpdB.below {MK BB B : Nat} {a w w' : World} (h : UpdB MK BB w w') (hb : Below B a w) (h1 : B ≤ BB) (h2 : B ≤ MK) : Below B a w' :=
  hb.trans ⟨h.os, h.tape, h.output, h.size, fun k hk => h.block k (by omega) (by omega)⟩
theorem IntsX.below {w w' : World} {MK BB B : Nat} {v : Value} {l : List Int} (h : IntsX w MK BB v l) (hb : Below B w w') (hB : w.heap.size ≤ B) : IntsX w' MK BB v l := ⟨h.own.below hb hB, h.loc⟩
theorem IntsX.alloc {w : World} {MK BB : Nat} {v : Value} {l : List Int} (h : IntsX w MK BB v l) (o : Obj) : IntsX (w.alloc o) MK BB v l := ⟨h.own.alloc o, h.loc⟩
theorem IntsX.grownNC {w w' : World} {MK BB : Nat} {v : Value} {l : List Int} {row : Option Nat} (h : IntsX w MK BB v l) (hg : w.grownBy w' row) (hr : ∀ r, row = some r → ∃ o : Obj, w.heap[r]? = some o ∧ o.isCells = false) : IntsX w' MK BB v l := by
  refine ⟨⟨h.own.1, ?_⟩, h.loc⟩
  rcases h.own.2 with h0 | ⟨g, cap, cur, h1, h2, h3, h4⟩
  · exact .inl h0
  · exact .inr ⟨g, cap, cur, h1, h2, blk_kept h3 hg hr, h4⟩
/-- A store into a block that is not its own. -/
theorem IntsX.setCell {w : World} {MK BB p : Nat} {v u : Value} {l : List Int} (h : IntsX w MK BB v l) (hp : p < MK) : IntsX (w.setCell ⟨p, 0, none⟩ u) MK BB v l := by
  refine ⟨⟨h.own.1, ?_⟩, h.loc⟩
  rcases h.own.2 with h0 | ⟨g, cap, cur, h1, h2, h3, h4⟩
  · exact .inl h0
  · exact .inr ⟨g, cap, cur, h1, h2, (Below.heap_setCell _ _ _ _ (show g ≠ p by omega)).trans h3, h4⟩

theorem wp_append_intX {o : Oper} {a : Act} {Q : Exit → Act → World → Prop} {w : World} {K : Act → World → Prop} (s x : Operand) (ho : o.op = .call { callee := .builtin .append, args := #[s, x], argTypes := #[27, 27] })
    (MK BB : Nat) (v : Value) (l : List Int) (hs : a.eval s = v) (hown : IntsX w MK BB v l) (g : Nat) (y : Int) (hx : a.eval x = .slice (some ⟨g, 0, none⟩) 1 1) (tb : TypeId) (fr : Nat × Nat)
    (hc : w.heap[g]? = some (.cells #[.int .i64 y] tb fr)) (hlen : l.length ≤ 1000000) (hB : BB ≤ w.heap.size) (hM : MK ≤ BB)
    (h : ∀ v' w', IntsX w' MK BB v' (l ++ [y]) → UpdB MK BB w w' → KeepsOthers w w' → K (a.put o.dst v') w') : o.wp Try.prog a w K Q := by
  obtain ⟨i0, hi, hz0, hz1, hz2⟩ := info_parts info_int
  refine wp_append_lies w s x 27 ho MK 3 i0 (.int .i64 0) 1 8 Try.underlying27 hi hz0 hz1 hz2 rfl (by decide) v l.length _ hs hown.own ⟨g, 0, none⟩ 1 1 [.int .i64 y] hx rfl ?_ ?_ (by decide) (by unfold maxLen; omega) (by omega) (by omega) _ rfl ?_
  · exact fun j u hj => World.news_of_block hc j u (by simpa using hj)
  · intro u hu; simp at hu; subst hu; rfl
  · intro g' cap w' h1 h2 h3 h4
    refine h _ _ ⟨Ints.grown h1, fun q hq => ?_⟩ ⟨h2.os, h2.tape, h2.output, h2.size, fun k hk hn => h2.block k (by omega) fun e => ?_⟩ (KeepsOthers.of_grownBy h2 fun j ob hj ho => ?_)
    · have hq : g' = q := by simpa [Value.ownBlock] using hq
      subst hq
      rcases h3 with h3 | h3
      · exact hown.loc _ h3
      · right; omega
    · rcases hown.loc k e.symm with e | e
      · exact hn e
      · omega
    · rcases hown.own.2 with ⟨h0, _⟩ | ⟨q, cp, cur, e1, e2, e3, e4⟩
      · rw [h0] at hj; cases hj
      · rw [e1] at hj; cases hj
        rw [e3] at ho; cases ho; rfl
end Go.Proofs.Ytagikfiiljdpnaa
