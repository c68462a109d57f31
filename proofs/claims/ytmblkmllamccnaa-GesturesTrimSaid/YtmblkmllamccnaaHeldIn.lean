/- A region that draws its order, inside a fence and outside of rounds: operations that yield a value each wherever S holds may be walked first. -/
import Derived.Test.YtmblkmllamccnaaRound
import Derived.OrdersHeld
import Derived.OrdersIn
import Derived.Deep.RegionHeld3
namespace Go.Proofs.Ytmblkmllamccnaa
open Go.RowKit Go.Shelf

variable {F : Fence} {n : Nat} {P : Program} {ops : Array Oper} {Q : Exit → Act → World → Prop} {S : World → Prop}

/-- It yields v where S holds, and calls nothing. -/
structure Reads (P : Program) (ops : Array Oper) (S : World → Prop) (o : Oper) (v : Value) (a : Act) : Prop where
  run : YieldsIf P ops S o v a
  calm : ∀ w, o.about P w a.eval = none

theorem Reads.same {o : Oper} {v : Value} {a b : Act} (h : Reads P ops S o v a) (h1 : execOp b.eval o = execOp a.eval o) (h2 : Region.wanted o (yielded ops b.tmps) = Region.wanted o (yielded ops a.tmps)) (h3 : ∀ w, o.about P w b.eval = o.about P w a.eval) : Reads P ops S o v b :=
  ⟨h.run.of_same h1 h2, fun w => (h3 w).trans (h.calm w)⟩

theorem Reads.op {i : Nat} {o : Oper} {v : Value} {a : Act} {w : World} {K : Act → World → Prop} (hro : F.round = none) (hi : ops[i]? = some o) (h : Reads P ops S o v a) (hS : S w) (hk : K (a.put o.dst v) w) : wpOpIn F n P ops Q i K a w := by
  have hc : ∀ f, o.about P w a.eval = some f → F.fn f := fun f e => by rw [h.calm w] at e; cases e
  unfold wpOpIn
  simp only [hi]
  rcases h.run with ⟨hw, hv⟩ | ⟨hw, rfl⟩
  · simp only [hw, if_true, Oper.wpIn, hro, Oper.semAt_none, hv w hS, Oper.uponIn]
    exact ⟨hc, hk⟩
  · simp only [hw, Bool.false_eq_true, if_false]
    exact ⟨hc, hk⟩

/-- Another operation, apart from it, may go ahead of it. -/
theorem Reads.pass {j : Nat} {o p : Oper} {v : Value} {a : Act} {w : World} {K : Act → World → Prop} (hro : F.round = none) (hj : ops[j]? = some p) (hap : o.apart ops p = true) (so : ∀ cs b, o.op ≠ .select cs b) (sp : ∀ cs b, p.op ≠ .select cs b)
    (hQ : ∀ c a w, Q (.panic c) (a.put o.dst v) w → Q (.panic c) a w) (hy : Reads P ops S o v a) (h : wpOpIn F n P ops Q j K (a.put o.dst v) w) :
    wpOpIn F n P ops Q j (fun a' w' => Reads P ops S o v a' ∧ K (a'.put o.dst v) w') a w := by
  obtain ⟨q1, q2, q3⟩ := Oper.apart_spec hap
  have st : ∀ (b : Act) (u : Value), Reads P ops S o v b → Reads P ops S o v (b.put p.dst u) := fun b u hb =>
    hb.same (execOp_put o so b p.dst u q3) (wanted_put o b p.dst u q3) (fun w => about_put o w b p.dst u q3)
  unfold wpOpIn at *
  simp only [hj] at *
  rw [wanted_put p a o.dst v q1, about_put p w a o.dst v q1] at h
  by_cases hw : Region.wanted p (yielded ops a.tmps) = true
  · simp only [hw, if_true] at h ⊢
    unfold Oper.wpIn at *
    rw [about_put p w a o.dst v q1] at h
    obtain ⟨g1, g2⟩ := h
    refine ⟨g1, ?_⟩
    rw [hro, Oper.semAt_none, execOp_put p sp a o.dst v q1] at g2
    rw [hro, Oper.semAt_none]
    have back : ∀ (u : Value) (w' : World), K ((a.put o.dst v).put p.dst u) w' → Reads P ops S o v (a.put p.dst u) ∧ K ((a.put p.dst u).put o.dst v) w' := fun u w' hk =>
      ⟨st a u hy, by rw [← Act.put_comm a v u q2]; exact hk⟩
    generalize (execOp a.eval p).run P w = r at *
    rcases r with ⟨x, w'⟩ | ⟨x, w'⟩
    · cases x with
      | value u => exact back u w' g2
      | skip => exact back undef w' g2
      | «defer» d =>
        simp only [Oper.uponIn] at g2 ⊢
        refine ⟨st _ undef (hy.same rfl rfl fun _ => rfl), ?_⟩
        rw [← Act.put_comm _ v undef q2, ← Act.put_defers]
        exact g2
      | enter f args =>
        refine ⟨g2.1, CallsIn.mono g2.2 fun e w'' he => ?_⟩
        cases e with
        | returned u => exact back u w'' he
        | panicked c => exact hQ _ _ _ he
        | outgrown => exact he
      | row row args => exact ⟨g2.1, RowsIn.mono g2.2 fun u w'' he => back u w'' he⟩
      | round l f tmps assign body =>
        refine ⟨g2.1, RoundIn.mono g2.2 fun e w'' he => ?_⟩
        cases e with
        | returned u => exact back u w'' he
        | panicked c => exact hQ _ _ _ he
        | outgrown => exact he
      | _ => exact g2.elim
    · cases x <;> first | exact g2 | exact hQ _ _ _ g2
  · simp only [hw, Bool.false_eq_true, if_false] at h ⊢
    exact ⟨h.1, st a undef hy, by rw [← Act.put_comm a v undef q2]; exact h.2⟩

/-- Have the operations below c come up? -/
def allB (l : Array Bool) : Nat → Bool
  | 0 => true
  | c + 1 => l.getD c true && allB l c
theorem allB_false {l : Array Bool} {j : Nat} (h : l.getD j true = false) : ∀ c, j < c → allB l c = false
  | 0, hj => by omega
  | c + 1, hj => by
    rcases Nat.lt_or_ge j c with g | g
    · simp only [allB, allB_false h c g, Bool.and_false]
    · obtain rfl : j = c := by omega
      simp only [allB, h, Bool.false_and]
theorem allB_true {l : Array Bool} : ∀ {c : Nat}, allB l c = true → ∀ j, j < c → l.getD j true = true
  | 0, _, j, hj => by omega
  | c + 1, h, j, hj => by
    simp only [allB, Bool.and_eq_true] at h
    rcases Nat.lt_or_ge j c with g | g
    · exact allB_true h.2 j g
    · obtain rfl : j = c := by omega
      exact h.1
/-- All below c but number i have come up. -/
def exc (i c n : Nat) : Array Bool := Array.ofFn fun j : Fin n => decide (j.1 < c ∧ j.1 ≠ i)
/-- Nothing from c on comes up ahead of one that is below c. -/
def lateB (ops : Array Oper) (c : Nat) : Bool := (List.range c).all fun i => decide (Region.ready .any ops (exc i c ops.size) = [i]) || (List.range c).any fun j => decide (j ≠ i) && (match ops[j]? with
  | some p => p.after.any fun e => Region.binds .any e && e.on == i
  | none => false)
/-- What has come up waits for nothing. -/
def Closed (ops : Array Oper) (l : Array Bool) : Prop := ∀ j p, ops[j]? = some p → l.getD j true = true → ∀ e ∈ p.after, Region.binds .any e = true → l.getD e.on true = true
theorem Closed.set {l : Array Bool} {j : Nat} (h : Closed ops l) (hj : j ∈ Region.ready .any ops l) : Closed ops (l.setIfInBounds j true) := by
  obtain ⟨u1, p, hp, u2⟩ := mem_ready.1 hj
  have up : ∀ m, l.getD m true = true → (l.setIfInBounds j true).getD m true = true := fun m hm => by
    by_cases e : j = m
    · subst e
      rcases Nat.lt_or_ge j l.size with g | g
      · simp [g]
      · simp
    · rw [getD_set_ne true e]; exact hm
  intro m q hq hm e he hb
  by_cases ej : j = m
  · subst ej
    rw [hp] at hq; cases hq
    have g := u2 e he hb
    apply up
    rcases Nat.lt_or_ge e.on l.size with g' | g'
    · simp [g'] at g ⊢; exact g
    · simp [Array.getElem?_eq_none g']
  · rw [getD_set_ne true ej] at hm
    exact up _ (h m q hq hm e he hb)

/-- Whatever comes up, S holds behind it, until the first c have come up; from there on, any order. -/
def heldIn (F : Fence) (n : Nat) (P : Program) (ops : Array Oper) (Q : Exit → Act → World → Prop) (S : World → Prop) (c : Nat) : Nat → Array Bool → Act → World → Prop
  | 0, l, a, w => Region.ready .any ops l = [] ∧ Q .normal a w
  | k + 1, l, a, w => if allB l c = true then wpAnyIn F n P .any ops Q (k + 1) l a w else
    (Region.ready .any ops l = [] → Q .normal a w) ∧ ∀ i ∈ Region.ready .any ops l, i < c ∧ wpOpIn F n P ops Q i (fun a' w' => S w' ∧ heldIn F n P ops Q S c k (l.setIfInBounds i true) a' w') a w

variable {c : Nat}

theorem heldIn_any : ∀ (k : Nat) (l : Array Bool) (a : Act) (w : World), heldIn F n P ops Q S c k l a w → wpAnyIn F n P .any ops Q k l a w
  | 0, _, _, _, h => h
  | k + 1, l, _, _, h => by
    unfold heldIn at h
    by_cases hc : allB l c = true
    · rwa [if_pos hc] at h
    · rw [if_neg hc] at h
      exact ⟨h.1, fun i hi => wpOpIn_mono (fun a' w' h' => heldIn_any k _ a' w' h'.2) (h.2 i hi).2⟩
theorem heldIn_full {k : Nat} {l : Array Bool} {a : Act} {w : World} (hc : allB l c = true) (h : wpAnyIn F n P .any ops Q k l a w) : heldIn F n P ops Q S c k l a w := by
  cases k with
  | zero => exact h
  | succ k => unfold heldIn; rw [if_pos hc]; exact h

theorem heldIn_first {i : Nat} {o : Oper} {v : Value} (hro : F.round = none) (hic : i < c) (hlate : lateB ops c = true) (hi : ops[i]? = some o) (hs : ∀ (j : Nat) (p : Oper) cs b, ops[j]? = some p → p.op ≠ .select cs b) (hQ : ∀ c a w, Q (.panic c) (a.put o.dst v) w → Q (.panic c) a w) :
    ∀ (k : Nat) (l : Array Bool) (a : Act) (w : World), Closed ops l → l.size = ops.size → (∀ j, c ≤ j → j < ops.size → l.getD j true = false) → (∀ j p, ops[j]? = some p → j ≠ i → l.getD j true = false → (∀ e ∈ p.after, Region.binds .any e = true → e.on ≠ i) → o.apart ops p = true) →
      i ∈ Region.ready .any ops l → Reads P ops S o v a → S w → heldIn F n P ops Q S c k (l.setIfInBounds i true) (a.put o.dst v) w → heldIn F n P ops Q S c (k + 1) l a w := by
  intro k
  induction k with
  | zero =>
    intro l a w _ _ _ _ hr hy hS H
    have hun := (mem_ready.1 hr).1
    unfold heldIn
    rw [if_neg (by rw [allB_false hun c hic]; simp)]
    refine ⟨fun h => (by rw [h] at hr; cases hr), fun j hj => ?_⟩
    by_cases e : j = i
    · subst e; exact ⟨hic, hy.op hro hi hS ⟨hS, H⟩⟩
    · have := ready_mono hj e
      rw [H.1] at this
      cases this
  | succ k ih =>
    intro l a w hcl hsz hge hf hr hy hS H
    have hun := (mem_ready.1 hr).1
    unfold heldIn
    rw [if_neg (by rw [allB_false hun c hic]; simp)]
    refine ⟨fun h => (by rw [h] at hr; cases hr), fun j hj => ?_⟩
    by_cases e : j = i
    · subst e; exact ⟨hic, hy.op hro hi hS ⟨hS, H⟩⟩
    · by_cases hall : allB (l.setIfInBounds i true) c = true
      · exfalso
        have hl : l = exc i c ops.size := by
          apply Array.ext
          · simp [exc, hsz]
          · intro m h1 h2
            have g1 : l[m] = l.getD m true := by simp [h1]
            rw [g1]
            simp only [exc, Array.getElem_ofFn]
            by_cases hm : m = i
            · subst hm; rw [hun]; simp
            · by_cases hmc : m < c
              · have := allB_true hall m hmc
                rw [getD_set_ne true (Ne.symm hm)] at this
                rw [this]; simp [hmc, hm]
              · rw [hge m (by omega) (by omega)]; simp [hmc]
        have hck := List.all_eq_true.1 hlate i (List.mem_range.2 hic)
        rcases (Bool.or_eq_true _ _).mp hck with hck | hck
        · have hrd := of_decide_eq_true hck
          rw [← hl] at hrd
          rw [hrd] at hj
          exact e (List.mem_singleton.1 hj)
        · obtain ⟨m, hm, hck⟩ := List.any_eq_true.1 hck
          have hmc := List.mem_range.1 hm
          obtain ⟨hmi, hck⟩ := (Bool.and_eq_true _ _).mp hck
          have hmi := of_decide_eq_true hmi
          cases hpm : ops[m]? with
          | none => rw [hpm] at hck; cases hck
          | some p =>
            rw [hpm] at hck
            obtain ⟨e', he', hck⟩ := Array.any_eq_true'.1 hck
            obtain ⟨hb, hon⟩ := (Bool.and_eq_true _ _).mp hck
            have hon : e'.on = i := by simpa using hon
            have g1 := allB_true hall m hmc
            rw [getD_set_ne true (Ne.symm hmi)] at g1
            have g2 := hcl m p hpm g1 e' he' hb
            rw [hon, hun] at g2
            cases g2
      · unfold heldIn at H
        rw [if_neg hall] at H
        obtain ⟨u1, p, hp, u2⟩ := mem_ready.1 hj
        have hno : ∀ e ∈ p.after, Region.binds .any e = true → e.on ≠ i := fun e he hb heq => by
          have g1 := u2 e he hb
          have g0 := hun
          rw [heq] at g1
          rcases Nat.lt_or_ge i l.size with g | g
          · simp [g] at g0 g1; rw [g0] at g1; cases g1
          · simp [Array.getElem?_eq_none g] at g1
        obtain ⟨hjc, hH⟩ := H.2 j (ready_mono hj e)
        have h2 := Reads.pass hro hp (hf j p hp e u1 hno) (fun cs b => hs i o cs b hi) (fun cs b => hs j p cs b hp) hQ hy hH
        refine ⟨hjc, wpOpIn_mono (fun a' w' h3 => ⟨h3.2.1, ih (l.setIfInBounds j true) a' w' (hcl.set hj) (by simpa using hsz) ?_ ?_ (ready_mono hr (Ne.symm e)) h3.1 h3.2.1 ?_⟩) h2⟩
        · intro m hm hmn
          rw [getD_set_ne true (by omega)]
          exact hge m hm hmn
        · intro m q hq hmi hunm hx
          refine hf m q hq hmi ?_ hx
          by_cases ej : j = m
          · subst ej; exact u1
          · rw [getD_set_ne true ej] at hunm; exact hunm
        · rw [Array.setIfInBounds_comm _ _ e]
          exact h3.2.2

/-- These operations, one behind the other, yield a value each. -/
def readsAll (P : Program) (ops : Array Oper) (S : World → Prop) (K : Act → Prop) : List Oper → Act → Prop
  | [], a => K a
  | o :: l, a => ∃ v, Reads P ops S o v a ∧ readsAll P ops S K l (a.put o.dst v)
theorem readsAll_cons {o : Oper} {l : List Oper} {a : Act} {K : Act → Prop} (v : Value) (hw : Region.wanted o (yielded ops a.tmps) = true) (hc : ∀ w, o.about P w a.eval = none) (h : ∀ w, S w → (execOp a.eval o).run P w = .ok (.value v) w) (hr : readsAll P ops S K l (a.put o.dst v)) : readsAll P ops S K (o :: l) a :=
  ⟨v, ⟨.inl ⟨hw, h⟩, hc⟩, hr⟩
theorem readsAll_nil {a : Act} {K : Act → Prop} (h : K a) : readsAll P ops S K [] a := h

theorem heldIn_head (hro : F.round = none) (hlate : lateB ops c = true) (hs : Region.noSelect ops = true) (hQ : ∀ c a w d v, Q (.panic c) (a.put d v) w → Q (.panic c) a w) {k : Nat} {w : World} (hS : S w) :
    ∀ (l : List Oper) (m : Nat) (listed : Array Bool) (a : Act), m + l.length ≤ c → Closed ops listed → listed.size = ops.size → (∀ j, c ≤ j → j < ops.size → listed.getD j true = false) → (∀ j, j < l.length → ops[m + j]? = l[j]?) → headB .any ops listed m l.length = true →
      readsAll P ops S (fun a' => heldIn F n P ops Q S c k (setAll listed m l.length) a' w) l a → heldIn F n P ops Q S c (k + l.length) listed a w
  | [], _, _, _, _, _, _, _, _, _, h => h
  | o :: l, m, listed, a, hmc, hcl, hsz, hge, hl, hB, h => by
    simp only [List.length_cons, headB, Bool.and_eq_true] at hB
    simp only [List.length_cons] at hmc
    obtain ⟨⟨hr, hf⟩, hB⟩ := hB
    obtain ⟨v, hy, h⟩ := h
    have h0 : ops[m]? = some o := by simpa using hl 0 (by simp)
    refine heldIn_first hro (by omega) hlate h0 (Region.noSelect_spec hs) (fun c a w => hQ c a w _ _) _ listed a w hcl hsz hge (Region.free_spec h0 hf) (by simpa using hr) hy hS
      (heldIn_head hro hlate hs hQ hS l (m + 1) _ _ (by omega) (hcl.set (by simpa using hr)) (by simpa using hsz) ?_ (fun j hj => by have := hl (j + 1) (by simp; omega); simpa [Nat.add_assoc, Nat.add_comm 1 j] using this) hB h)
    intro j h1 h2
    rw [getD_set_ne true (by omega)]
    exact hge j h1 h2

/-- One operation alone may come up. -/
theorem anyIn_one {i : Nat} {o : Oper} {k : Nat} {l : Array Bool} {a : Act} {w : World} (hr : Region.ready .any ops l = [i]) (hi : ops[i]? = some o) (hw : Region.wanted o (yielded ops a.tmps) = true)
    (h : ∀ K' : Act → World → Prop, (∀ a w, wpAnyIn F n P .any ops Q k (l.setIfInBounds i true) a w → K' a w) → Oper.wpIn F n P o a w K' Q) : wpAnyIn F n P .any ops Q (k + 1) l a w := by
  refine wpAnyIn_all hr (by simp) fun j hj => ?_
  obtain rfl := List.mem_singleton.1 hj
  unfold wpOpIn
  simp only [hi, hw, if_true]
  exact h _ fun a w h => h

/-- The first m operations yield a value each, and all others wait for them. -/
theorem wpIn_reads {id : Nat} {a : Act} {w : World} {l : List Oper} (m : Nat) (S : World → Prop) (hro : F.round = none) (hm : P.follows .mixedOrders = true)
    (hs : Region.noSelect l.toArray = true) (hml : m ≤ l.length) (hlate : lateB l.toArray m = true) (hB : headB .any l.toArray (Array.replicate l.length false) 0 m = true) (hfull : allB (setAll (Array.replicate l.length false) 0 m) m = true) (hS : S w.drew)
    (h : readsAll P l.toArray S (fun a' => wpAnyIn F n P .any l.toArray (NoPanic Q) (l.length - m) (setAll (Array.replicate l.length false) 0 m) a' w.drew) (l.take m) a) : (Code.region id l.toArray true).wpIn F n P Q a w := by
  refine wpIn_mono (wpIn_region_any hm (heldIn_any (S := S) (c := m) _ _ _ _ ?_)) NoPanic.imp
  have e : (l.take m).length = m := by simp; omega
  have hmono : ∀ (l' : List Oper) (a : Act), readsAll P l.toArray S (fun a' => wpAnyIn F n P .any l.toArray (NoPanic Q) (l.length - m) (setAll (Array.replicate l.length false) 0 m) a' w.drew) l' a → readsAll P l.toArray S (fun a' => heldIn F n P l.toArray (NoPanic Q) S m (l.length - m) (setAll (Array.replicate l.length false) 0 m) a' w.drew) l' a := by
    intro l'
    induction l' with
    | nil => intro a h; exact heldIn_full hfull h
    | cons o l' ih => rintro a ⟨v, h1, h2⟩; exact ⟨v, h1, ih _ h2⟩
  have := heldIn_head (F := F) (n := n) (P := P) (Q := NoPanic Q) (ops := l.toArray) (c := m) (k := l.length - m) hro hlate hs (fun _ _ _ _ _ h => h) hS (l.take m) 0 (Array.replicate l.length false) a (by rw [e]; omega) (fun j p hp hj => by have := (Array.getElem?_eq_some_iff.1 hp).1; simp at this; simp [this] at hj) (by simp) (fun j _ hj => by simp at hj; simp [hj]) (fun j hj => by rw [e] at hj; simp [hj]) (by rw [e]; exact hB) (by rw [e]; exact hmono _ _ h)
  rw [e, Nat.sub_add_cancel hml] at this
  simpa using this
end Go.Proofs.Ytmblkmllamccnaa
