/- A region that draws its order: some of its operations in whatever order, each with a fact of what it yields that stays as memory grows; then the rest. -/
import Derived.Test.YthgbkdaimnejeaaBase
import Derived.Orders
import Derived.StillTail
namespace Go.Proofs.Ythgbkdaimnejeaa
open Go.RowKit

/-- An operation: its number, the slot that it writes, the operations whose facts it uses, its own fact. -/
structure Nd where
  i : Nat
  d : Tmp
  ds : List Nat
  φ : Value → World → Prop
  st : ∀ v w w', Below w.heap.size w w' → φ v w → φ v w'
  fl : Bool := false
/-- An operation that looks at no memory, and may come up late. -/
abbrev Nd.late (i d : Nat) (v : Value) (ds : List Nat := []) : Nd := ⟨i, d, ds, fun u _ => u = v, fun _ _ _ _ h => h, true⟩
abbrev Nd.lit (i d : Nat) (v : Value) (ds : List Nat := []) : Nd := ⟨i, d, ds, fun u _ => u = v, fun _ _ _ _ h => h, false⟩
/-- A slice literal without elements. -/
abbrev Nd.bs0 (i d : Nat) : Nd := ⟨i, d, [], fun v _ => ∃ g, v = .slice (some ⟨g, 0, none⟩) 0 0, fun _ _ _ _ h => h, false⟩
/-- A slice literal of n elements. -/
abbrev Nd.bs (i d n : Nat) (cs : Array Value) (t : TypeId) (ds : List Nat := []) : Nd := ⟨i, d, ds, fun v w => ∃ g, v = .slice (some ⟨g, 0, none⟩) n n ∧ w.heap[g]? = some (.cells cs t (0, 0)), fun _ _ _ hb h => by
  obtain ⟨g, h1, h2⟩ := h
  exact ⟨g, h1, blk_below h2 hb (Array.getElem?_eq_some_iff.1 h2).1⟩, false⟩
theorem cell_bel {W w' : World} {a : Addr} {v : Value} (hb : Below W.heap.size W w') (h : W.cell? a = some v) : w'.cell? a = some v := (hb.cell (World.block_lt_of_cell? W a h)).trans h
theorem bel_drew {B : Nat} {W w' : World} (hb : Below B W.drew w') : Below B W w' := (Below.refl B W).drew.trans hb
def depsOf (L : List Nd) (ds : List Nat) : List Nd := L.filter fun x => ds.contains x.i
/-- Whatever the operations yield, in their order. -/
def overN : List Nd → World → Act → (Act → Prop) → Prop
  | [], _, a, K => K a
  | x :: l, w, a, K => ∀ v, x.φ v w → overN l w (a.put (some x.d) v) K
def bndB (md : Region.Mode) (o : Oper) (p : Nat → Bool) : Bool := o.after.all fun e => !Region.binds md e || p e.on
def woB (md : Region.Mode) (ops : Array Oper) (l0 : Array Bool) (h : Nat) (acc : Array Bool) (k : Nat) : Bool :=
  l0.getD k true || (k != h && match ops[k]? with | some o => bndB md o (fun j => acc.getD j false) | none => false)
def maxWo (md : Region.Mode) (ops : Array Oper) (l0 : Array Bool) (h : Nat) : Array Bool := (List.range ops.size).foldl (fun acc k => acc.push (woB md ops l0 h acc k)) #[]
def dagB (md : Region.Mode) (ops : Array Oper) (l0 : Array Bool) (ns : List (Nat × Tmp × List Nat × Bool)) : Bool :=
  decide (l0.size = ops.size) &&
  (List.range ops.size).all (fun k => match ops[k]? with | some o => bndB md o (fun j => decide (j < k)) | none => true) &&
  ns.all (fun n => match ops[n.1]? with
    | some o => o.dst == some n.2.1 && !l0.getD n.1 true && (match o.op with | .select .. => false | _ => true) &&
        ns.all (fun m => !(o.looksAt ops).contains m.2.1 || n.2.2.1.contains m.1) && n.2.2.1.all (fun j => o.after.any fun e => Region.binds md e && e.on == j)
    | none => false) &&
  decide ((ns.map (·.1)).Nodup) && decide ((ns.map (·.2.1)).Nodup) &&
  ns.all (fun n => n.2.2.2 || (List.range ops.size).all fun k =>
    (!woB md ops l0 n.1 (maxWo md ops l0 n.1) k || (maxWo md ops l0 n.1).getD k false) && (l0.getD k true || (ns.map (·.1)).contains k || !(maxWo md ops l0 n.1).getD k false)) &&
  ns.all (fun n => !n.2.2.2 || match ops[n.1]? with
    | some o => bndB md o (fun j => l0.getD j false || (ns.map (·.1)).contains j) && (List.range ops.size).all (fun j => j == n.1 || l0.getD j true || o.after.any (fun e => Region.binds md e && e.on == j) ||
        match ops[j]? with | some oj => oj.after.any (fun e => Region.binds md e && e.on == n.1) || o.apart ops oj | none => true)
    | none => false)
abbrev nsOf (L : List Nd) : List (Nat × Tmp × List Nat × Bool) := L.map fun x => (x.i, x.d, x.ds, x.fl)

section
variable {P : Program} {Q : Exit → Act → World → Prop} {md : Region.Mode} {ops : Array Oper}
/-- What is to be shown of an operation. -/
def ObN (P : Program) (ops : Array Oper) (W0 : World) (a0 : Act) (L : List Nd) (nd : Nd) : Prop :=
  match ops[nd.i]? with
  | some o => ∀ w, Below W0.heap.size W0 w → overN (depsOf L nd.ds) w a0 fun a =>
      if nd.fl then o.guard = none ∧ ∃ v, (∀ w', nd.φ v w') ∧ ∀ w', (execOp a.eval o).run P w' = .ok (.value v) w' else
      (Region.wanted o (yielded ops a.tmps) = true ∧ ∀ (K : Act → World → Prop) (Q : Exit → Act → World → Prop), (∀ v w', Below w.heap.size w w' → nd.φ v w' → K (a.put o.dst v) w') → o.wp P a w K Q) ∨
      (Region.wanted o (yielded ops a.tmps) = false ∧ nd.φ undef w)
  | none => False
def setN (l0 : Array Bool) (L : List Nd) : Array Bool := L.foldl (fun l x => l.setIfInBounds x.i true) l0

theorem over_at {K : Act → Prop} (val : Nd → Value) : ∀ (l : List Nd) (w : World) (a : Act), overN l w a K → (∀ x ∈ l, x.φ (val x) w) → K (l.foldl (fun a x => a.put (some x.d) (val x)) a)
  | [], _, _, h, _ => h
  | x :: l, w, a, h, hv => over_at val l w _ (h _ (hv x (by simp))) fun y hy => hv y (by simp [hy])
theorem overN_mono {K K' : Act → Prop} (hK : ∀ a, K a → K' a) : ∀ (l : List Nd) (w : World) (a : Act), overN l w a K → overN l w a K'
  | [], _, _, h => hK _ h
  | _ :: l, w, _, h => fun v hv => overN_mono hK l w _ (h v hv)
theorem puts_defers (val : Nd → Value) : ∀ (l : List Nd) (a : Act), (l.foldl (fun a x => a.put (some x.d) (val x)) a).defers = a.defers
  | [], _ => rfl
  | _ :: l, _ => (puts_defers val l _).trans rfl
theorem puts_size (val : Nd → Value) : ∀ (l : List Nd) (a : Act), (l.foldl (fun a x => a.put (some x.d) (val x)) a).tmps.size = a.tmps.size
  | [], _ => rfl
  | _ :: l, _ => (puts_size val l _).trans (by simp [Act.put])
theorem puts_other (val : Nd → Value) (s : Nat) : ∀ (l : List Nd) (a : Act), (∀ x ∈ l, x.d ≠ s) → (l.foldl (fun a x => a.put (some x.d) (val x)) a).tmps[s]? = a.tmps[s]?
  | [], _, _ => rfl
  | x :: l, a, h => (puts_other val s l _ fun y hy => h y (by simp [hy])).trans (by simp [Act.put, Array.getElem?_setIfInBounds_ne (h x (by simp))])
theorem puts_at (val : Nd → Value) (x : Nd) : ∀ (l : List Nd) (a : Act), x ∈ l → (l.map (·.d)).Nodup → x.d < a.tmps.size → (l.foldl (fun a x => a.put (some x.d) (val x)) a).tmps[x.d]? = some (val x)
  | y :: l, a, hx, hn, hs => by
    simp only [List.map_cons, List.nodup_cons] at hn
    rcases List.mem_cons.1 hx with rfl | hx
    · refine (puts_other val x.d l _ fun z hz e => hn.1 (by rw [← e]; exact List.mem_map_of_mem hz)).trans ?_
      simp [Act.put, hs]
    · exact puts_at val x l _ hx hn.2 (by simpa [Act.put] using hs)
theorem setN_size (L : List Nd) : ∀ l0 : Array Bool, (setN l0 L).size = l0.size := by
  unfold setN
  induction L with
  | nil => intro; rfl
  | cons x L ih => intro l0; exact (ih _).trans (by simp)
theorem setN_getD (k : Nat) : ∀ (L : List Nd) (l0 : Array Bool), k < l0.size → ((setN l0 L)[k]? = some true ∧ ∃ x ∈ L, x.i = k) ∨ ((setN l0 L)[k]? = l0[k]? ∧ ∀ x ∈ L, x.i ≠ k)
  | [], _, _ => .inr ⟨rfl, fun _ h => by cases h⟩
  | x :: L, l0, hk => by
    rcases setN_getD k L (l0.setIfInBounds x.i true) (by simpa using hk) with ⟨h, y, hy, e⟩ | ⟨h, hn⟩
    · exact .inl ⟨h, y, by simp [hy], e⟩
    · by_cases e : x.i = k
      · refine .inl ⟨h.trans ?_, x, by simp, e⟩
        subst e; simp [hk]
      · exact .inr ⟨h.trans (by simp [Array.getElem?_setIfInBounds_ne e]), fun y hy => by rcases List.mem_cons.1 hy with rfl | hy; exact e; exact hn y hy⟩

structure InvN (md : Region.Mode) (ops : Array Oper) (l0 : Array Bool) (W0 : World) (a0 : Act) (L : List Nd) (listed : Array Bool) (a : Act) (w : World) : Prop where
  sz : listed.size = l0.size
  bel : Below W0.heap.size W0 w
  off : ∀ k : Nat, (∀ x ∈ L, x.i ≠ k) → listed[k]? = l0[k]?
  cl : ∀ k : Nat, listed[k]? = some true → l0[k]? = some true ∨ ∀ o, ops[k]? = some o → ∀ e ∈ o.after, Region.binds md e = true → listed[e.on]? = some true
  fact : ∀ x ∈ L, listed[x.i]? = some true → x.φ (a.tmps.getD x.d undef) w
  df : a.defers = a0.defers
  ts : a.tmps.size = a0.tmps.size
  old : ∀ s : Nat, (∀ x ∈ L, listed[x.i]? = some true → x.d ≠ s) → a.tmps[s]? = a0.tmps[s]?

theorem put_same {a a2 : Act} {d : Tmp} {u v : Value} (hs : a2.tmps.size = a.tmps.size) (h : a.put (some d) u = a.put (some d) v) : a2.put (some d) u = a2.put (some d) v := by
  by_cases hd : d < a.tmps.size
  · have e : (a.put (some d) u).tmps[d]? = (a.put (some d) v).tmps[d]? := by rw [h]
    simp [Act.put, hd] at e
    rw [e]
  · have hd2 : a2.tmps.size ≤ d := by rw [hs]; exact Nat.not_lt.1 hd
    have e1 : ∀ u, a2.put (some d) u = a2 := fun u => by simp only [Act.put]; rw [Array.setIfInBounds_eq_of_size_le hd2]
    rw [e1, e1]
theorem wp_move {o : Oper} {d : Tmp} {a a2 : Act} {w : World} {Ψ : Value → World → Prop} {K : Act → World → Prop} (hd : o.dst = some d) (he : execOp a2.eval o = execOp a.eval o) (hs : a2.tmps.size = a.tmps.size)
    (h : ∀ (K : Act → World → Prop) (Q : Exit → Act → World → Prop), (∀ v w', Ψ v w' → K (a.put o.dst v) w') → o.wp P a w K Q) (hK : ∀ v w', Ψ v w' → K (a2.put o.dst v) w') : o.wp P a2 w K Q := by
  have h1 := h (fun a' w' => ∃ v, a' = a.put o.dst v ∧ Ψ v w') (fun _ _ _ => False) fun v w' hv => ⟨v, rfl, hv⟩
  rw [hd] at hK
  unfold Oper.wp at *
  rw [he]
  generalize (execOp a.eval o).run P w = r at *
  cases r with
  | ok n w' =>
    cases n <;> simp only [Oper.upon] at h1 ⊢
    case value u =>
      obtain ⟨v, e, hv⟩ := h1
      rw [hd] at e ⊢
      rw [put_same hs e]; exact hK v _ hv
    case skip =>
      obtain ⟨v, e, hv⟩ := h1
      rw [hd] at e ⊢
      rw [put_same hs e]; exact hK v _ hv
    case defer dd =>
      obtain ⟨v, e, hv⟩ := h1
      exfalso
      have := congrArg (fun x : Act => x.defers.length) e
      rw [hd] at this
      simp [Act.put] at this
    case enter f args =>
      refine Calls.mono h1 fun e w'' he => ?_
      cases e with
      | returned u =>
        obtain ⟨v, e, hv⟩ := he
        rw [hd] at e
        show K (a2.put o.dst u) w''
        rw [hd, put_same hs e]; exact hK v _ hv
      | panicked c => exact he.elim
      | outgrown => obtain ⟨_, _, he⟩ := he; exact he.elim
    case row row args =>
      refine Rows.mono h1 fun u w'' he => ?_
      obtain ⟨v, e, hv⟩ := he
      rw [hd] at e ⊢
      rw [put_same hs e]; exact hK v _ hv
    all_goals exact h1.elim
  | halt x w' => cases x <;> simp only [Oper.upon] at h1 ⊢
theorem getD_f {l : Array Bool} {k : Nat} (h : l[k]? = some true) : l.getD k false = true := by simp [h]
theorem of_getD_f {l : Array Bool} {k : Nat} (h : l.getD k false = true) : l[k]? = some true := by
  cases e : l[k]? with
  | none => simp [e] at h
  | some b => simp [e] at h; rw [h]
theorem of_getD_t {l : Array Bool} {k : Nat} (h : l.getD k true = false) : l[k]? = some false := by
  cases e : l[k]? with
  | none => simp [e] at h
  | some b => simp [e] at h; rw [h]
structure DagOk (md : Region.Mode) (ops : Array Oper) (l0 : Array Bool) (L : List Nd) : Prop where
  sz : l0.size = ops.size
  up : ∀ (k : Nat) (o : Oper), ops[k]? = some o → ∀ e ∈ o.after, Region.binds md e = true → e.on < k
  nd : ∀ x ∈ L, ∃ o, ops[x.i]? = some o ∧ o.dst = some x.d ∧ l0.getD x.i true = false ∧ (∀ cs b, o.op ≠ .select cs b) ∧ (∀ y ∈ L, y.d ∈ o.looksAt ops → y.i ∈ x.ds) ∧ (∀ j ∈ x.ds, ∃ e ∈ o.after, Region.binds md e = true ∧ e.on = j)
  ni : (L.map (·.i)).Nodup
  nt : (L.map (·.d)).Nodup
  wo : ∀ x ∈ L, x.fl = false → ∃ M : Array Bool, ∀ k, k < ops.size → (woB md ops l0 x.i M k = true → M.getD k false = true) ∧ (l0.getD k true = true ∨ (∃ y ∈ L, y.i = k) ∨ M.getD k false = false)
  late : ∀ x ∈ L, x.fl = true → ∀ o, ops[x.i]? = some o → (∀ e ∈ o.after, Region.binds md e = true → l0.getD e.on false = true ∨ ∃ y ∈ L, y.i = e.on) ∧
    ∀ (j : Nat) (oj : Oper), ops[j]? = some oj → j ≠ x.i → l0.getD j true = false → (∀ e ∈ o.after, Region.binds md e = true → e.on ≠ j) → (∀ e ∈ oj.after, Region.binds md e = true → e.on ≠ x.i) → o.apart ops oj = true
theorem bndB_spec {o : Oper} {p : Nat → Bool} : bndB md o p = true ↔ ∀ e ∈ o.after, Region.binds md e = true → p e.on = true := by
  unfold bndB
  rw [Array.all_eq_true_iff_forall_mem]
  constructor
  · intro h e he hb
    have := h e he
    simpa [hb] using this
  · intro h e he
    cases hb : Region.binds md e
    · rfl
    · simpa using h e he hb
theorem dagOk {l0 : Array Bool} {L : List Nd} (h : dagB md ops l0 (nsOf L) = true) : DagOk md ops l0 L := by
  simp only [dagB, Bool.and_eq_true, decide_eq_true_eq] at h
  obtain ⟨⟨⟨⟨⟨⟨h1, h2⟩, h3⟩, h4⟩, h5⟩, h6⟩, h7⟩ := h
  refine ⟨h1, fun k o ho e he hb => ?_, fun x hx => ?_, by simpa [nsOf, Function.comp_def] using h4, by simpa [nsOf, Function.comp_def] using h5, fun x hx hfl => ⟨maxWo md ops l0 x.i, fun k hk => ?_⟩, fun x hx hfl o ho => ?_⟩
  · have hk := (Array.getElem?_eq_some_iff.1 ho).1
    have := List.all_eq_true.1 h2 k (List.mem_range.2 hk)
    rw [ho] at this
    simpa using bndB_spec.1 this e he hb
  · have hm : (x.i, x.d, x.ds, x.fl) ∈ nsOf L := List.mem_map.2 ⟨x, hx, rfl⟩
    have := List.all_eq_true.1 h3 _ hm
    cases ho : ops[x.i]? with
    | none => rw [ho] at this; cases this
    | some o =>
      rw [ho] at this
      simp only [Bool.and_eq_true] at this
      obtain ⟨⟨⟨⟨g1, g2⟩, g3⟩, g4⟩, g5⟩ := this
      refine ⟨o, rfl, by simpa using g1, by simpa using g2, fun cs b e => (by rw [e] at g3; cases g3), fun y hy hl => ?_, fun j hj => ?_⟩
      · have := List.all_eq_true.1 g4 (y.i, y.d, y.ds, y.fl) (List.mem_map.2 ⟨y, hy, rfl⟩)
        simp only [Bool.or_eq_true, Bool.not_eq_true'] at this
        rcases this with this | this
        · have h9 : (o.looksAt ops).contains y.d = true := by simpa using hl
          rw [h9] at this; cases this
        · simpa using this
      · have := List.all_eq_true.1 g5 j hj
        obtain ⟨e, he, hb⟩ := Array.any_eq_true'.1 this
        simp only [Bool.and_eq_true, beq_iff_eq] at hb
        exact ⟨e, he, hb.1, hb.2⟩
  · have hm : (x.i, x.d, x.ds, x.fl) ∈ nsOf L := List.mem_map.2 ⟨x, hx, rfl⟩
    have h6x := List.all_eq_true.1 h6 _ hm
    simp only [hfl, Bool.false_or] at h6x
    have := List.all_eq_true.1 h6x k (List.mem_range.2 hk)
    simp only [Bool.and_eq_true, Bool.or_eq_true, Bool.not_eq_true'] at this
    obtain ⟨g1, g2⟩ := this
    refine ⟨fun h => g1.elim (fun g => by rw [h] at g; cases g) id, ?_⟩
    rcases g2 with (g2 | g2) | g2
    · exact .inl g2
    · refine .inr (.inl ?_)
      have : k ∈ (nsOf L).map (·.1) := by simpa using g2
      obtain ⟨n, hn, rfl⟩ := List.mem_map.1 this
      obtain ⟨y, hy, rfl⟩ := List.mem_map.1 hn
      exact ⟨y, hy, rfl⟩
    · exact .inr (.inr g2)
  · have hm : (x.i, x.d, x.ds, x.fl) ∈ nsOf L := List.mem_map.2 ⟨x, hx, rfl⟩
    have h7x := List.all_eq_true.1 h7 _ hm
    simp only [hfl, Bool.not_true, Bool.false_or, ho, Bool.and_eq_true] at h7x
    refine ⟨fun e he hb => ?_, fun j oj hj hne hl hd hn => ?_⟩
    · have := bndB_spec.1 h7x.1 e he hb
      simp only [Bool.or_eq_true] at this
      rcases this with g | g
      · exact .inl g
      · have : e.on ∈ (nsOf L).map (·.1) := by simpa using g
        obtain ⟨n, hn, e1⟩ := List.mem_map.1 this
        obtain ⟨y, hy, rfl⟩ := List.mem_map.1 hn
        exact .inr ⟨y, hy, e1⟩
    · have := List.all_eq_true.1 h7x.2 j (List.mem_range.2 (Array.getElem?_eq_some_iff.1 hj).1)
      simp only [hj, Bool.or_eq_true, beq_iff_eq] at this
      rcases this with ((g | g) | g) | g
      · exact absurd g hne
      · rw [hl] at g; cases g
      · obtain ⟨e, he, hb⟩ := Array.any_eq_true'.1 g
        simp only [Bool.and_eq_true, beq_iff_eq] at hb
        exact absurd hb.2 (hd e he hb.1)
      · rcases g with g | g
        · obtain ⟨e, he, hb⟩ := Array.any_eq_true'.1 g
          simp only [Bool.and_eq_true, beq_iff_eq] at hb
          exact absurd hb.2 (hn e he hb.1)
        · exact g

theorem listed_wo {l0 listed : Array Bool} {W0 w : World} {a0 a : Act} {L : List Nd} (hD : DagOk md ops l0 L) (hI : InvN md ops l0 W0 a0 L listed a w) {x : Nd} {M : Array Bool}
    (hM : ∀ k, k < ops.size → woB md ops l0 x.i M k = true → M.getD k false = true) (hx : listed[x.i]? ≠ some true) : ∀ k : Nat, listed[k]? = some true → M.getD k false = true := by
  intro k
  induction k using Nat.strongRecOn with
  | _ k ih =>
    intro hk
    have hks : k < ops.size := by have := (Array.getElem?_eq_some_iff.1 hk).1; rw [hI.sz, hD.sz] at this; exact this
    refine hM k hks ?_
    unfold woB
    rcases hI.cl k hk with h | h
    · simp [h]
    · have hne : k ≠ x.i := fun e => hx (by rw [← e]; exact hk)
      obtain ⟨o, ho⟩ : ∃ o, ops[k]? = some o := ⟨_, Array.getElem?_eq_getElem hks⟩
      have hb : bndB md o (fun j => M.getD j false) = true := bndB_spec.2 fun e he hb => ih e.on (hD.up k o ho e he hb) (h o ho e he hb)
      simp only [ho, hb]
      simp [hne]
theorem ready_head {l0 listed : Array Bool} {W0 w : World} {a0 a : Act} {L : List Nd} (hD : DagOk md ops l0 L) (hI : InvN md ops l0 W0 a0 L listed a w) {x : Nd} (hx : x ∈ L) (hfl : x.fl = false) (hu : listed[x.i]? ≠ some true) {j : Nat} (hj : j ∈ Region.ready md ops listed) :
    ∃ y ∈ L, y.i = j := by
  obtain ⟨M, hM⟩ := hD.wo x hx hfl
  obtain ⟨hj0, o, ho, hall⟩ := mem_ready.1 hj
  have hjs := (Array.getElem?_eq_some_iff.1 ho).1
  rcases (hM j hjs).2 with h | h | h
  · by_cases hy : ∃ y ∈ L, y.i = j
    · exact hy
    · have := hI.off j fun y hy' e => hy ⟨y, hy', e⟩
      have h2 := of_getD_t hj0
      rw [this] at h2
      simp [h2] at h
  · exact h
  · by_cases e : j = x.i
    · exact ⟨x, hx, e.symm⟩
    · exfalso
      have hb : bndB md o (fun j => M.getD j false) = true := bndB_spec.2 fun e' he hb => listed_wo hD hI (fun k hk => (hM k hk).1) hu e'.on (of_getD_f (hall e' he hb))
      have hw : woB md ops l0 x.i M j = true := by unfold woB; simp only [ho, hb]; simp [e]
      rw [(hM j hjs).1 hw] at h; cases h
theorem ready_some {l0 listed : Array Bool} {W0 w : World} {a0 a : Act} {L : List Nd} (hD : DagOk md ops l0 L) (hI : InvN md ops l0 W0 a0 L listed a w) : ∀ k : Nat, listed[k]? = some false → Region.ready md ops listed ≠ [] := by
  intro k
  induction k using Nat.strongRecOn with
  | _ k ih =>
    intro hk h0
    have hks : k < ops.size := by have := (Array.getElem?_eq_some_iff.1 hk).1; rw [hI.sz, hD.sz] at this; exact this
    obtain ⟨o, ho⟩ : ∃ o, ops[k]? = some o := ⟨_, Array.getElem?_eq_getElem hks⟩
    have : k ∈ Region.ready md ops listed := by
      refine mem_ready.2 ⟨by simp [hk], o, ho, fun e he hb => ?_⟩
      have hlt := hD.up k o ho e he hb
      cases hv : listed[e.on]? with
      | none =>
        have := Array.getElem?_eq_none_iff.1 hv
        rw [hI.sz, hD.sz] at this
        omega
      | some b =>
        cases b with
        | true => simp [hv]
        | false => exact absurd h0 (ih e.on hlt hv)
    rw [h0] at this; cases this
def cntN (L : List Nd) (listed : Array Bool) : Nat := (L.filter fun x => listed.getD x.i false).length
theorem cntN_set : ∀ (L : List Nd) (listed : Array Bool) (x : Nd), x ∈ L → (L.map (·.i)).Nodup → listed[x.i]? = some false → cntN L (listed.setIfInBounds x.i true) = cntN L listed + 1
  | y :: L, listed, x, hx, hn, hf => by
    simp only [List.map_cons, List.nodup_cons] at hn
    have hlt := (Array.getElem?_eq_some_iff.1 hf).1
    unfold cntN
    rcases List.mem_cons.1 hx with rfl | hx
    · have e : L.filter (fun y => (listed.setIfInBounds x.i true).getD y.i false) = L.filter (fun y => listed.getD y.i false) := List.filter_congr fun y hy => by
        rw [getD_set_ne false]
        intro e
        exact hn.1 (by rw [e]; exact List.mem_map_of_mem hy)
      have e1 : (listed.setIfInBounds x.i true).getD x.i false = true := by simp [hlt]
      have e2 : listed.getD x.i false = false := by simp [hf]
      rw [List.filter_cons, List.filter_cons, if_pos e1, if_neg (by rw [e2]; exact Bool.false_ne_true), e, List.length_cons]
    · have ih := cntN_set L listed x hx hn.2 hf
      unfold cntN at ih
      have hne : x.i ≠ y.i := fun e => hn.1 (by rw [← e]; exact List.mem_map_of_mem hx)
      rw [List.filter_cons, List.filter_cons, getD_set_ne false hne]
      split
      · rw [List.length_cons, List.length_cons, ih]
      · exact ih
theorem cntN_le (L : List Nd) (listed : Array Bool) : cntN L listed ≤ L.length := List.length_filter_le _ _
theorem cntN_lt {L : List Nd} {listed : Array Bool} (h : cntN L listed < L.length) : ∃ x ∈ L, listed.getD x.i false = false := by
  induction L with
  | nil => simp at h
  | cons y L ih =>
    cases hy : listed.getD y.i false with
    | false => exact ⟨y, by simp, hy⟩
    | true =>
      unfold cntN at h
      rw [List.filter_cons, if_pos hy, List.length_cons, List.length_cons] at h
      obtain ⟨x, hx, e⟩ := ih (by unfold cntN; omega)
      exact ⟨x, by simp [hx], e⟩
theorem cntN_all {L : List Nd} {listed : Array Bool} (h : cntN L listed = L.length) : ∀ x ∈ L, listed.getD x.i false = true := by
  intro x hx
  unfold cntN at h
  have := List.length_filter_eq_length_iff.1 h x hx
  exact this
theorem exec_agree {o : Oper} {a a2 : Act} (hs : ∀ cs b, o.op ≠ .select cs b) (h : ∀ t ∈ o.looksAt ops, a2.tmps[t]? = a.tmps[t]?) : execOp a2.eval o = execOp a.eval o :=
  execOp_congr o hs fun x hx => by
    cases x with
    | tmp t =>
      have := h t (List.mem_append_left _ (List.mem_filterMap.2 ⟨.tmp t, by simpa using hx, rfl⟩))
      simp [Act.eval, this]
    | _ => rfl
theorem wanted_agree {o : Oper} {a a2 : Act} (h : ∀ t ∈ o.looksAt ops, a2.tmps[t]? = a.tmps[t]?) : Region.wanted o (yielded ops a2.tmps) = Region.wanted o (yielded ops a.tmps) := by
  unfold Region.wanted
  cases hg : o.guard with
  | none => rfl
  | some gw =>
    obtain ⟨g, want⟩ := gw
    have hy : yielded ops a2.tmps g = yielded ops a.tmps g := by
      unfold yielded
      cases ht : (ops[g]?).bind (·.dst) with
      | none => rfl
      | some t =>
        have := h t (by simp [Oper.looksAt, hg, ht])
        simp [this]
    simp only [hy]

theorem inj_on {α β : Type} {f : α → β} : ∀ {L : List α}, (L.map f).Nodup → ∀ {x y : α}, x ∈ L → y ∈ L → f x = f y → x = y
  | z :: L, hn, x, y, hx, hy, e => by
    simp only [List.map_cons, List.nodup_cons] at hn
    rcases List.mem_cons.1 hx with h1 | h1 <;> rcases List.mem_cons.1 hy with h2 | h2
    · rw [h1, h2]
    · exact absurd (by rw [← h1, e]; exact List.mem_map_of_mem h2) hn.1
    · exact absurd (by rw [← h2, ← e]; exact List.mem_map_of_mem h1) hn.1
    · exact inj_on hn.2 h1 h2 e
theorem invN_next {l0 listed : Array Bool} {W0 w w' : World} {a0 a : Act} {L : List Nd} (hD : DagOk md ops l0 L) (hds : ∀ x ∈ L, x.d < a0.tmps.size) (hI : InvN md ops l0 W0 a0 L listed a w) {x : Nd} (hx : x ∈ L) {o' : Oper} (ho : ops[x.i]? = some o') (hall : ∀ e ∈ o'.after, Region.binds md e = true → listed.getD e.on false = true)
    {v : Value} (hb : Below w.heap.size w w') (hv : x.φ v w') : InvN md ops l0 W0 a0 L (listed.setIfInBounds x.i true) (a.put (some x.d) v) w' := by
  have hls : ∀ x ∈ L, x.i < listed.size := fun x hx => by
    obtain ⟨o, ho, _⟩ := hD.nd x hx
    rw [hI.sz, hD.sz]; exact (Array.getElem?_eq_some_iff.1 ho).1
  refine ⟨by simpa using hI.sz, hI.bel.trans (hb.mono hI.bel.size), fun k hk => ?_, fun k hk => ?_, fun y hy hl => ?_, hI.df, by simpa [Act.put] using hI.ts, fun s hs => ?_⟩
  · rw [Array.getElem?_setIfInBounds_ne (hk x hx)]; exact hI.off k hk
  · by_cases e : x.i = k
    · subst e
      refine .inr fun o2 ho2 e2 he2 hb2 => ?_
      obtain rfl : o2 = o' := by rw [ho] at ho2; cases ho2; rfl
      exact of_getD_f (getD_set_true (hall e2 he2 hb2))
    · rw [Array.getElem?_setIfInBounds_ne e] at hk
      rcases hI.cl k hk with h | h
      · exact .inl h
      · exact .inr fun o2 ho2 e2 he2 hb2 => of_getD_f (getD_set_true (getD_f (h o2 ho2 e2 he2 hb2)))
  · by_cases e : x.i = y.i
    · have hxy : x = y := inj_on hD.ni hx hy e
      subst hxy
      have hlt : x.d < a.tmps.size := by rw [hI.ts]; exact hds x hx
      simp [Act.put, hlt]; exact hv
    · rw [Array.getElem?_setIfInBounds_ne e] at hl
      have hne : x.d ≠ y.d := fun e2 => e (by rw [inj_on hD.nt hx hy e2])
      simp [Act.put, Array.getElem?_setIfInBounds_ne hne]
      exact y.st _ _ _ hb (by simpa using hI.fact y hy hl)
  · have hne : x.d ≠ s := hs x hx (by simp [hls x hx])
    simp only [Act.put]
    rw [Array.getElem?_setIfInBounds_ne hne]
    exact hI.old s fun y hy hl => hs y hy (by
      by_cases e : x.i = y.i
      · rw [e]; simp [hls y hy]
      · rw [Array.getElem?_setIfInBounds_ne e]; exact hl)
theorem agreeN {l0 listed : Array Bool} {W0 w : World} {a0 a : Act} {L : List Nd} (hD : DagOk md ops l0 L) (_hds : ∀ x ∈ L, x.d < a0.tmps.size) (hI : InvN md ops l0 W0 a0 L listed a w) {x : Nd} (_hx : x ∈ L) {o' : Oper} (_ho : ops[x.i]? = some o') (hdl : ∀ y ∈ depsOf L x.ds, y ∈ L ∧ listed[y.i]? = some true)
    (hlook : ∀ y ∈ L, y.d ∈ o'.looksAt ops → y.i ∈ x.ds) : ∀ t ∈ o'.looksAt ops, a.tmps[t]? = ((depsOf L x.ds).foldl (fun a' y => a'.put (some y.d) (a.tmps.getD y.d undef)) a0).tmps[t]? := by
  intro t ht
  have d2 := puts_size (fun y => a.tmps.getD y.d undef) (depsOf L x.ds) a0
  by_cases hs : ∃ y ∈ L, y.d = t
  · obtain ⟨y, hy, rfl⟩ := hs
    have hyd : y ∈ depsOf L x.ds := List.mem_filter.2 ⟨hy, by simpa using hlook y hy ht⟩
    by_cases hlt : y.d < a0.tmps.size
    · rw [puts_at (fun y => a.tmps.getD y.d undef) y _ a0 hyd ((List.filter_sublist.map _).nodup hD.nt) hlt]
      have hlt2 : y.d < a.tmps.size := by rw [hI.ts]; exact hlt
      simp [hlt2]
    · rw [Array.getElem?_eq_none (by rw [hI.ts]; exact Nat.not_lt.1 hlt), Array.getElem?_eq_none (by rw [d2]; exact Nat.not_lt.1 hlt)]
  · rw [puts_other _ t _ a0 fun y hy e => hs ⟨y, (hdl y hy).1, e⟩]
    exact hI.old t fun y hy _ e => hs ⟨y, hy, e⟩
theorem wpAny_dag_go {l0 : Array Bool} {W0 : World} {a0 : Act} {L : List Nd} {g : Nat} (hD : DagOk md ops l0 L) (hds : ∀ x ∈ L, x.d < a0.tmps.size) (hQ : ∀ c a w d v, Q (.panic c) (a.put d v) w → Q (.panic c) a w) (hsl : Region.noSelect ops = true) (hob : ∀ x ∈ L, ObN P ops W0 a0 L x)
    (hfin : ∀ w, Below W0.heap.size W0 w → overN L w a0 fun a => wpAny P md ops Q g (setN l0 L) a w) :
    ∀ (m : Nat) (listed : Array Bool) (a : Act) (w : World), InvN md ops l0 W0 a0 L listed a w → cntN L listed + m = L.length → wpAny P md ops Q (m + g) listed a w := by
  intro m
  induction m with
  | zero =>
    intro listed a w hI hc
    have hall := cntN_all (by omega : cntN L listed = L.length)
    have hf := over_at (fun x => a.tmps.getD x.d undef) L w a0 (hfin w hI.bel) fun x hx => hI.fact x hx (of_getD_f (hall x hx))
    have e1 : setN l0 L = listed := by
      refine Array.ext_getElem? fun k => ?_
      by_cases hk : k < l0.size
      · rcases setN_getD k L l0 hk with ⟨h, x, hx, rfl⟩ | ⟨h, hn⟩
        · rw [h, of_getD_f (hall x hx)]
        · rw [h, hI.off k fun x hx e => hn x hx e]
      · rw [Array.getElem?_eq_none (by rw [setN_size]; omega), Array.getElem?_eq_none (by rw [hI.sz]; omega)]
    have e2 : L.foldl (fun a' x => a'.put (some x.d) (a.tmps.getD x.d undef)) a0 = a := by
      have d1 := puts_defers (fun x => a.tmps.getD x.d undef) L a0
      have d2 := puts_size (fun x => a.tmps.getD x.d undef) L a0
      have d3 : (L.foldl (fun a' x => a'.put (some x.d) (a.tmps.getD x.d undef)) a0).tmps = a.tmps := by
        refine Array.ext_getElem? fun s => ?_
        by_cases hs : ∃ x ∈ L, x.d = s
        · obtain ⟨x, hx, rfl⟩ := hs
          by_cases hlt : x.d < a0.tmps.size
          · rw [puts_at (fun x => a.tmps.getD x.d undef) x L a0 hx hD.nt hlt]
            have hlt2 : x.d < a.tmps.size := by rw [hI.ts]; exact hlt
            simp [hlt2]
          · rw [Array.getElem?_eq_none (by rw [d2]; exact Nat.not_lt.1 hlt), Array.getElem?_eq_none (by rw [hI.ts]; exact Nat.not_lt.1 hlt)]
        · rw [puts_other _ s L a0 fun x hx e => hs ⟨x, hx, e⟩]
          exact (hI.old s fun x hx _ e => hs ⟨x, hx, e⟩).symm
      rw [← hI.df] at d1
      generalize L.foldl (fun a' x => a'.put (some x.d) (a.tmps.getD x.d undef)) a0 = b at *
      obtain ⟨bt, bd⟩ := b
      obtain ⟨at', ad⟩ := a
      dsimp only at d1 d3
      rw [d1, d3]
    rw [e1, e2] at hf
    rw [Nat.zero_add]; exact hf
  | succ m ih =>
    intro listed a w hI hc
    have hls : ∀ x ∈ L, x.i < listed.size := fun x hx => by
      obtain ⟨o, ho, _⟩ := hD.nd x hx
      rw [hI.sz, hD.sz]; exact (Array.getElem?_eq_some_iff.1 ho).1
    have hun : ∀ x ∈ L, listed.getD x.i false = false → listed[x.i]? = some false := fun x hx hu => by
      have hlt := hls x hx
      rw [Array.getElem?_eq_getElem hlt]
      cases hb : listed[x.i] with
      | true => simp [hlt, hb] at hu
      | false => rfl
    rw [Nat.add_right_comm]
    by_cases hflt : ∃ x ∈ L, x.fl = true ∧ x.i ∈ Region.ready md ops listed
    · obtain ⟨x, hx, hfl, hj⟩ := hflt
      obtain ⟨hj0, o', ho, hall⟩ := mem_ready.1 hj
      have hxf := of_getD_t hj0
      obtain ⟨o2, ho2, hdst, _, hsel, hlook, hdep⟩ := hD.nd x hx
      obtain rfl : o2 = o' := by rw [ho] at ho2; cases ho2; rfl
      have hOb := hob x hx
      unfold ObN at hOb
      simp only [ho, hfl, if_true] at hOb
      have hdl : ∀ y ∈ depsOf L x.ds, y ∈ L ∧ listed[y.i]? = some true := fun y hy => by
        obtain ⟨h1, h2⟩ := List.mem_filter.1 hy
        obtain ⟨e, he, hb, hon⟩ := hdep y.i (by simpa using h2)
        exact ⟨h1, by rw [← hon]; exact of_getD_f (hall e he hb)⟩
      obtain ⟨hg, v, hv, hrun⟩ := over_at (fun y => a.tmps.getD y.d undef) (depsOf L x.ds) w a0 (hOb w hI.bel) fun y hy => hI.fact y (hdl y hy).1 (hdl y hy).2
      have hag := agreeN hD hds hI hx ho hdl hlook
      refine wpAny_first ho (Region.noSelect_spec hsl) (fun c a w => hQ c a w _ _) (m + g) listed a w (fun j oj hoj hne hl hno => (hD.late x hx hfl o2 ho).2 j oj hoj hne ?_ (fun e he hb heq => ?_) hno) hj (.inl ⟨by simp [Region.wanted, hg], fun w' => by rw [exec_agree hsel hag]; exact hrun w'⟩) ?_
      · by_cases hjl : ∃ y ∈ L, y.i = j
        · obtain ⟨y, hy, rfl⟩ := hjl
          obtain ⟨_, _, _, h0, _⟩ := hD.nd y hy
          exact h0
        · have h2 := hI.off j fun y hy e => hjl ⟨y, hy, e⟩
          have h3 := of_getD_t hl
          rw [h2] at h3
          simp [h3]
      · have h3 := of_getD_t hl
        have h4 := of_getD_f (hall e he hb)
        rw [heq, h3] at h4; cases h4
      · rw [hdst]
        exact ih _ _ _ (invN_next hD hds hI hx ho hall (Below.refl _ _) (hv w)) (by rw [cntN_set L listed x hx hD.ni hxf]; omega)
    by_cases hhd : ∃ x ∈ L, x.fl = false ∧ listed.getD x.i false = false
    case neg =>
      exfalso
      have key : ∀ n (x : Nd), x ∈ L → x.i = n → listed.getD x.i false = false → False := by
        intro n
        induction n using Nat.strongRecOn with
        | _ n ihn =>
          intro x hx hxn hu
          obtain ⟨o, ho, _⟩ := hD.nd x hx
          have hxfl : x.fl = true := by
            cases hf : x.fl with
            | true => rfl
            | false => exact absurd ⟨x, hx, hf, hu⟩ hhd
          refine hflt ⟨x, hx, hxfl, mem_ready.2 ⟨by simp [hun x hx hu], o, ho, fun e he hb => ?_⟩⟩
          rcases (hD.late x hx hxfl o ho).1 e he hb with h | ⟨y, hy, hye⟩
          · by_cases hjl : ∃ y ∈ L, y.i = e.on
            · obtain ⟨y, hy, hye⟩ := hjl
              obtain ⟨_, _, _, h0, _⟩ := hD.nd y hy
              rw [hye] at h0
              have h5 := of_getD_t h0
              simp [h5] at h
            · have h2 := hI.off e.on fun y hy e2 => hjl ⟨y, hy, e2⟩
              have h3 := of_getD_f h
              rw [← h2] at h3
              exact getD_f h3
          · cases hl : listed.getD e.on false with
            | true => rfl
            | false => exact absurd (ihn e.on (by rw [← hxn]; exact hD.up x.i o ho e he hb) y hy hye (by rw [hye]; exact hl)) id
      obtain ⟨x0, hx0, hu0⟩ := cntN_lt (by omega : cntN L listed < L.length)
      exact key x0.i x0 hx0 rfl hu0
    obtain ⟨x0, hx0, hfl0, hu0⟩ := hhd
    have hu1 : listed[x0.i]? ≠ some true := fun e => by rw [getD_f e] at hu0; cases hu0
    have hu2 := hun x0 hx0 hu0
    refine ⟨fun h0 => absurd h0 (ready_some hD hI x0.i hu2), fun j hj => ?_⟩
    obtain ⟨x, hx, rfl⟩ := ready_head hD hI hx0 hfl0 hu1 hj
    have hfl : x.fl = false := by
      cases hf : x.fl with
      | false => rfl
      | true => exact absurd ⟨x, hx, hf, hj⟩ hflt
    obtain ⟨hj0, o, ho, hall⟩ := mem_ready.1 hj
    have hxf := of_getD_t hj0
    obtain ⟨o', ho', hdst, _, hsel, hlook, hdep⟩ := hD.nd x hx
    obtain rfl : o' = o := by rw [ho] at ho'; cases ho'; rfl
    have hOb := hob x hx
    unfold ObN at hOb
    simp only [ho, hfl, Bool.false_eq_true, if_false] at hOb
    have hdl : ∀ y ∈ depsOf L x.ds, y ∈ L ∧ listed[y.i]? = some true := fun y hy => by
      obtain ⟨h1, h2⟩ := List.mem_filter.1 hy
      obtain ⟨e, he, hb, hon⟩ := hdep y.i (by simpa using h2)
      exact ⟨h1, by rw [← hon]; exact of_getD_f (hall e he hb)⟩
    have hob1 := over_at (fun y => a.tmps.getD y.d undef) (depsOf L x.ds) w a0 (hOb w hI.bel) fun y hy => hI.fact y (hdl y hy).1 (hdl y hy).2
    have d2 := puts_size (fun y => a.tmps.getD y.d undef) (depsOf L x.ds) a0
    have hag := agreeN hD hds hI hx ho hdl hlook
    have next : ∀ v w', Below w.heap.size w w' → x.φ v w' → wpAny P md ops Q (m + g) (listed.setIfInBounds x.i true) (a.put (some x.d) v) w' := fun v w' hb hv =>
      ih _ _ _ (invN_next hD hds hI hx ho hall hb hv) (by rw [cntN_set L listed x hx hD.ni hxf]; omega)
    unfold wpOp
    simp only [ho]
    rw [wanted_agree hag]
    rcases hob1 with ⟨hw, hK⟩ | ⟨hw, hu⟩
    · rw [if_pos hw]
      refine .inl (wp_move (Ψ := fun v w' => Below w.heap.size w w' ∧ x.φ v w') hdst (exec_agree hsel hag) (by rw [d2, hI.ts]) (fun K Q' h => hK K Q' fun v w' h1 h2 => h v w' ⟨h1, h2⟩) fun v w' h => ?_)
      rw [hdst]; exact next v w' h.1 h.2
    · rw [if_neg (by rw [hw]; exact Bool.false_ne_true), hdst]
      exact next undef w (Below.refl _ _) hu
/-- What is to be shown of the operations, one by one. -/
def ObsN (P : Program) (ops : Array Oper) (W0 : World) (a0 : Act) (L : List Nd) : List Nd → Prop
  | [] => True
  | x :: l => ObN P ops W0 a0 L x ∧ ObsN P ops W0 a0 L l
theorem obsN_at {W0 : World} {a0 : Act} {L : List Nd} : ∀ {l : List Nd}, ObsN P ops W0 a0 L l → ∀ x ∈ l, ObN P ops W0 a0 L x
  | y :: l, h, x, hx => by
    rcases List.mem_cons.1 hx with rfl | hx
    · exact h.1
    · exact obsN_at h.2 x hx
theorem obsN_drew {w : World} {a0 : Act} {L : List Nd} : ∀ {l : List Nd}, ObsN P ops w a0 L l → ObsN P ops w.drew a0 L l
  | [], _ => trivial
  | x :: l, h => by
    refine ⟨?_, obsN_drew h.2⟩
    have h1 := h.1
    unfold ObN at *
    cases ho : ops[x.i]? with
    | none => rw [ho] at h1; exact h1
    | some o => rw [ho] at h1; exact fun w' hb => h1 w' (bel_drew hb)
theorem wpAny_dag {l0 : Array Bool} {W0 : World} {a0 : Act} {g f : Nat} (L : List Nd) (hB : dagB md ops l0 (nsOf L) = true) (hds : (L.all fun x => decide (x.d < a0.tmps.size)) = true) (hf : f = L.length + g) (hsl : Region.noSelect ops = true) (hQ : ∀ c a w d v, Q (.panic c) (a.put d v) w → Q (.panic c) a w)
    (hob : ObsN P ops W0 a0 L L) (hfin : ∀ w, Below W0.heap.size W0 w → overN L w a0 fun a => wpAny P md ops Q g (setN l0 L) a w) : wpAny P md ops Q f l0 a0 W0 := by
  have hD := dagOk hB
  have hno : ∀ x ∈ L, l0[x.i]? ≠ some true := fun x hx e => by
    obtain ⟨o, _, _, h, _⟩ := hD.nd x hx
    simp [e] at h
  subst hf
  refine wpAny_dag_go hD (fun x hx => by simpa using List.all_eq_true.1 hds x hx) hQ hsl (obsN_at hob) hfin L.length l0 a0 W0 ⟨rfl, Below.refl _ _, fun _ _ => rfl, fun k hk => .inl hk, fun x hx h => absurd h (hno x hx), rfl, rfl, fun _ _ => rfl⟩ ?_
  have : cntN L l0 = 0 := by
    unfold cntN
    rw [List.length_eq_zero_iff, List.filter_eq_nil_iff]
    intro x hx h
    exact hno x hx (of_getD_f h)
  omega
/-- The one operation that may come next. -/
theorem wpAny_next {i g : Nat} {o : Oper} {listed : Array Bool} {a : Act} {w : World} (hr : Region.ready md ops listed = [i]) (ho : ops[i]? = some o) (hg : o.guard = none)
    (h : ∀ K : Act → World → Prop, (∀ a w, wpAny P md ops Q g (listed.setIfInBounds i true) a w → K a w) → o.wp P a w K Q) : wpAny P md ops Q (g + 1) listed a w :=
  wpAny_all hr (by simp) fun j hj => by
    obtain rfl : j = i := by simpa using hj
    unfold wpOp
    simp only [ho]
    rw [if_pos (by simp [Region.wanted, hg])]
    exact .inl (h _ fun _ _ h => h)
/-- A region that draws its order, outside of a fence. -/
theorem wp_region_dag {id : Nat} {a : Act} {w : World} {l : List Oper} {g : Nat} (L : List Nd) (hm : P.follows .mixedOrders = true) (hB : dagB .any l.toArray (Array.replicate l.toArray.size false) (nsOf L) = true) (hds : (L.all fun x => decide (x.d < a.tmps.size)) = true) (hf : l.toArray.size = L.length + g) (hsl : Region.noSelect l.toArray = true) (hQ : ∀ c a w d v, Q (.panic c) (a.put d v) w → Q (.panic c) a w)
    (hob : ObsN P l.toArray w.drew a L L) (hfin : ∀ w', Below w.drew.heap.size w.drew w' → overN L w' a fun a => wpAny P .any l.toArray Q g (setN (Array.replicate l.toArray.size false) L) a w') : (Code.region id l.toArray true).wp P Q a w :=
  wp_region_any hm (wpAny_dag (W0 := w.drew) L hB hds hf hsl hQ hob hfin)
/-- The same, where the operations from number n on come one behind the other. -/
theorem wp_region_dagT {id : Nat} {a : Act} {w : World} {l : List Oper} (n : Nat) (L : List Nd) (hm : P.follows .mixedOrders = true) (hB : dagB .any l.toArray (Array.replicate l.toArray.size false) (nsOf L) = true) (hds : (L.all fun x => decide (x.d < a.tmps.size)) = true) (hf : (l.toArray.size == L.length + (l.drop n).length) = true)
    (hs : Region.seqB .any l.toArray (l.drop n).length n (setN (Array.replicate l.toArray.size false) L) = true) (hsl : Region.noSelect l.toArray = true) (hQ : ∀ c a w d v, Q (.panic c) (a.put d v) w → Q (.panic c) a w)
    (hob : ObsN P l.toArray w a L L) (hfin : ∀ w', Below w.heap.size w w' → overN L w' a fun a => wpList P l.toArray Q (l.drop n) a w') : (Code.region id l.toArray true).wp P Q a w :=
  wp_region_dag (g := (l.drop n).length) L hm hB hds (by simpa using hf) hsl hQ (obsN_drew hob) fun w' hb => overN_mono (fun a h => wpAny_of_seq (l.drop n) n _ a w' (fun j => by simp [List.getElem?_drop]) hs h) L w' a (hfin w' (bel_drew hb))
/-- The same, and what is left is walked by hand. -/
theorem wp_region_dagW {id : Nat} {a : Act} {w : World} {l : List Oper} {g : Nat} (L : List Nd) (hm : P.follows .mixedOrders = true) (hB : dagB .any l.toArray (Array.replicate l.toArray.size false) (nsOf L) = true) (hds : (L.all fun x => decide (x.d < a.tmps.size)) = true) (hf : (l.toArray.size == L.length + g) = true) (hsl : Region.noSelect l.toArray = true) (hQ : ∀ c a w d v, Q (.panic c) (a.put d v) w → Q (.panic c) a w)
    (hob : ObsN P l.toArray w a L L) (hfin : ∀ w', Below w.heap.size w w' → overN L w' a fun a => wpAny P .any l.toArray Q g (setN (Array.replicate l.toArray.size false) L) a w') : (Code.region id l.toArray true).wp P Q a w :=
  wp_region_dag L hm hB hds (by simpa using hf) hsl hQ (obsN_drew hob) fun w' hb => hfin w' (bel_drew hb)
end
end Go.Proofs.Ythgbkdaimnejeaa
