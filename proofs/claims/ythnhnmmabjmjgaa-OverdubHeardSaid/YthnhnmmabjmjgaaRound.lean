/- A region that draws its order, within a round of a range over a function: by the laws outside of a fence. -/
import Derived.Test.YthnhnmmabjmjgaaSeq
import Derived.OrdersHeld
import Derived.OrdersIn
import Derived.Deep.RegionHeld
namespace Go.Proofs.Ythnhnmmabjmjgaa
open Go.RowKit Go.Shelf

variable {P : Program} {ops : Array Oper} {Q : Exit → Act → World → Prop} {md : Region.Mode} {S : World → Prop} {lp n : Nat}

/-- No operation of the region is a defer statement. -/
def noDefer (ops : Array Oper) : Bool := ops.all fun o => match o.op with | .defer _ => false | _ => true

theorem noDefer_at {i : Nat} {o : Oper} (h : noDefer ops = true) (ho : ops[i]? = some o) (c : _) : o.op ≠ .defer c := by
  intro e
  have := Array.all_eq_true'.1 h o (Array.mem_of_getElem? ho)
  rw [e] at this
  cases this

theorem wpOp_round {i : Nat} {K : Act → World → Prop} {a : Act} {w : World} (hd : noDefer ops = true) (hq : ¬ LetsOut Q) (h : wpOp P ops Q i K a w) : wpOpIn (Fence.wide.inRound lp) n P ops Q i K a w := by
  unfold wpOp at h
  unfold wpOpIn
  cases ho : ops[i]? with
  | none => simpa [ho] using h
  | some o =>
    simp only [ho] at h ⊢
    split at h <;> rename_i hw
    · simp only [hw, if_true]
      rcases h with h | ⟨_, h⟩
      · refine ⟨fun _ _ => trivial, ?_⟩
        rw [Oper.semAt_eq _ _ _ (noDefer_at hd ho)]
        unfold Oper.wp at h
        generalize (execOp a.eval o).run P w = r at *
        rcases r with ⟨x, w'⟩ | ⟨x, w'⟩
        · cases x with
          | value v => exact h
          | skip => exact h
          | «defer» d => exact h
          | enter f args => exact ⟨(fun hh => by cases hh), (CallsIn.inRound lp (callsIn_wide.2 h)).mono fun e w'' he => by cases e <;> exact he⟩
          | row row args => exact ⟨(fun hh => by cases hh), fun c cs _ => let ⟨v, w', r, s⟩ := h c cs; ⟨v, w', r, stepsIn_wide.2 s⟩⟩
          | _ => exact h.elim
        · cases x <;> first | exact h | exact h.elim
      · exact absurd h hq
    · simp only [hw]
      exact ⟨fun _ _ => trivial, h⟩

theorem wpAny_round (hd : noDefer ops = true) (hq : ¬ LetsOut Q) : ∀ (fuel : Nat) (listed : Array Bool) (a : Act) (w : World), wpAny P md ops Q fuel listed a w → wpAnyIn (Fence.wide.inRound lp) n P md ops Q fuel listed a w
  | 0, _, _, _, h => h
  | fuel + 1, _, _, _, h => ⟨h.1, fun i hi => wpOpIn_mono (fun a' w' h' => wpAny_round hd hq fuel _ a' w' h') (wpOp_round hd hq (h.2 i hi))⟩

/-- A region that draws, in a round. -/
theorem wpIn_round_held {id : Nat} {a : Act} {w : World} (S : World → Prop) (hm : P.follows .mixedOrders = true) (hd : noDefer ops = true) (hq : ¬ LetsOut Q)
    (h : wpAnyH P .any ops Q S ops.size (Array.replicate ops.size false) a w.drew) : (Code.region id ops true).wpIn (Fence.wide.inRound lp) n P Q a w :=
  wpIn_region_any hm (wpAny_round hd hq _ _ _ _ (wpAny_of_held _ _ _ _ h))

/-- These operations, one behind the other, yield a value each, in every world that meets S. -/
def wpHeld (P : Program) (ops : Array Oper) (S : World → Prop) (K : Act → Prop) : List Oper → Act → Prop
  | [], a => K a
  | o :: l, a => ∃ v, YieldsIf P ops S o v a ∧ wpHeld P ops S K l (a.put o.dst v)
def headB (md : Region.Mode) (ops : Array Oper) : Array Bool → Nat → Nat → Bool
  | _, _, 0 => true
  | listed, k, m + 1 => (Region.ready md ops listed).contains k && Region.free md ops listed k && headB md ops (listed.setIfInBounds k true) (k + 1) m
def setAll : Array Bool → Nat → Nat → Array Bool
  | listed, _, 0 => listed
  | listed, k, m + 1 => setAll (listed.setIfInBounds k true) (k + 1) m

theorem wpAnyH_head (hs : Region.noSelect ops = true) (hQ : ∀ c a w d v, Q (.panic c) (a.put d v) w → Q (.panic c) a w) {fuel : Nat} {w : World} (hS : S w) :
    ∀ (l : List Oper) (k : Nat) (listed : Array Bool) (a : Act), (∀ j, j < l.length → ops[k + j]? = l[j]?) → headB md ops listed k l.length = true →
      wpHeld P ops S (fun a' => wpAnyH P md ops Q S fuel (setAll listed k l.length) a' w) l a → wpAnyH P md ops Q S (fuel + l.length) listed a w
  | [], _, _, _, _, _, h => h
  | o :: l, k, listed, a, hl, hB, h => by
    simp only [List.length_cons, headB, Bool.and_eq_true] at hB
    obtain ⟨⟨hr, hf⟩, hB⟩ := hB
    obtain ⟨v, hy, h⟩ := h
    have h0 : ops[k]? = some o := by simpa using hl 0 (by simp)
    exact wpAnyH_take h0 hs hf hr (fun c a w => hQ c a w _ _) hy hS (wpAnyH_head hs hQ hS l (k + 1) _ _ (fun j hj => by have := hl (j + 1) (by simp; omega); simpa [Nat.add_assoc, Nat.add_comm 1 j] using this) hB h)

theorem wpHeld_cons {o : Oper} {l : List Oper} {a : Act} {K : Act → Prop} (v : Value) (hw : Region.wanted o (yielded ops a.tmps) = true) (h : ∀ w, S w → (execOp a.eval o).run P w = .ok (.value v) w) (hr : wpHeld P ops S K l (a.put o.dst v)) : wpHeld P ops S K (o :: l) a :=
  ⟨v, .inl ⟨hw, h⟩, hr⟩
theorem wpHeld_nil {a : Act} {K : Act → Prop} (h : K a) : wpHeld P ops S K [] a := h

/-- One operation alone may come up. -/
theorem wpAnyH_one {i : Nat} {o : Oper} {fuel : Nat} {listed : Array Bool} {a : Act} {w : World} (hr : Region.ready md ops listed = [i]) (hi : ops[i]? = some o) (hw : Region.wanted o (yielded ops a.tmps) = true)
    (h : ∀ K' : Act → World → Prop, (∀ a w, S w → wpAnyH P md ops Q S fuel (listed.setIfInBounds i true) a w → K' a w) → Oper.wp P o a w K' Q) : wpAnyH P md ops Q S (fuel + 1) listed a w := by
  refine wpAnyH_all hr (by simp) ?_
  intro j hj
  obtain rfl := List.mem_singleton.1 hj
  unfold wpOp
  simp only [hi, hw, if_true]
  exact .inl (h _ fun a w hS h => ⟨hS, h⟩)

/-- A region that draws, in a round: the first m operations yield a value each. -/
theorem wpIn_round_head {id : Nat} {a : Act} {w : World} {l : List Oper} (m : Nat) (S : World → Prop) (hm : P.follows .mixedOrders = true) (hd : noDefer l.toArray = true) (hq : ¬ LetsOut Q)
    (hQ : ∀ c a w d v, Q (.panic c) (a.put d v) w → Q (.panic c) a w) (hs : Region.noSelect l.toArray = true) (hml : m ≤ l.length) (hB : headB .any l.toArray (Array.replicate l.length false) 0 m = true) (hS : S w.drew)
    (h : wpHeld P l.toArray S (fun a' => wpAnyH P .any l.toArray Q S (l.length - m) (setAll (Array.replicate l.length false) 0 m) a' w.drew) (l.take m) a) : (Code.region id l.toArray true).wpIn (Fence.wide.inRound lp) n P Q a w := by
  refine wpIn_round_held S hm hd hq ?_
  have e : (l.take m).length = m := by simp; omega
  have := wpAnyH_head (md := .any) (P := P) (Q := Q) (ops := l.toArray) (fuel := l.length - m) hs hQ hS (l.take m) 0 (Array.replicate l.length false) a (fun j hj => by rw [e] at hj; simp [hj]) (by rw [e]; exact hB) (by rw [e]; exact h)
  rw [e, Nat.sub_add_cancel hml] at this
  simpa using this

/-- Either of two operations may come up. -/
theorem wpAnyH_two {i j : Nat} {o o' : Oper} {fuel : Nat} {listed : Array Bool} {a : Act} {w : World} (hr : Region.ready md ops listed = [i, j]) (hi : ops[i]? = some o) (hj : ops[j]? = some o') (hw : Region.wanted o (yielded ops a.tmps) = true) (hw' : Region.wanted o' (yielded ops a.tmps) = true)
    (h : ∀ K' : Act → World → Prop, (∀ a w, S w → wpAnyH P md ops Q S fuel (listed.setIfInBounds i true) a w → K' a w) → Oper.wp P o a w K' Q)
    (h' : ∀ K' : Act → World → Prop, (∀ a w, S w → wpAnyH P md ops Q S fuel (listed.setIfInBounds j true) a w → K' a w) → Oper.wp P o' a w K' Q) : wpAnyH P md ops Q S (fuel + 1) listed a w := by
  refine wpAnyH_all hr (by simp) ?_
  intro x hx
  rcases List.mem_cons.1 hx with rfl | hx
  · unfold wpOp
    simp only [hi, hw, if_true]
    exact .inl (h _ fun a w hS h => ⟨hS, h⟩)
  · obtain rfl := List.mem_singleton.1 hx
    unfold wpOp
    simp only [hj, hw', if_true]
    exact .inl (h' _ fun a w hS h => ⟨hS, h⟩)

/-- A region that draws, in a round: m operations from number k on yield a value each. -/
theorem wpIn_round_from {id : Nat} {a : Act} {w : World} {l : List Oper} (k m : Nat) (S : World → Prop) (hm : P.follows .mixedOrders = true) (hd : noDefer l.toArray = true) (hq : ¬ LetsOut Q)
    (hQ : ∀ c a w d v, Q (.panic c) (a.put d v) w → Q (.panic c) a w) (hs : Region.noSelect l.toArray = true) (hml : k + m ≤ l.length) (hB : headB .any l.toArray (Array.replicate l.length false) k m = true) (hS : S w.drew)
    (h : wpHeld P l.toArray S (fun a' => wpAnyH P .any l.toArray Q S (l.length - m) (setAll (Array.replicate l.length false) k m) a' w.drew) ((l.drop k).take m) a) : (Code.region id l.toArray true).wpIn (Fence.wide.inRound lp) n P Q a w := by
  refine wpIn_round_held S hm hd hq ?_
  have e : ((l.drop k).take m).length = m := by simp; omega
  have := wpAnyH_head (md := .any) (P := P) (Q := Q) (ops := l.toArray) (fuel := l.length - m) hs hQ hS ((l.drop k).take m) k (Array.replicate l.length false) a (fun j hj => by rw [e] at hj; simp [hj]) (by rw [e]; exact hB) (by rw [e]; exact h)
  rw [e, Nat.sub_add_cancel (by omega)] at this
  simpa using this

end Go.Proofs.Ythnhnmmabjmjgaa
