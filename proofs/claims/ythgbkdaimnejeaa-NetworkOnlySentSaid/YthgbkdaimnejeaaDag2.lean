/- XDag, where an operation that may come up late has a fact of the memory, too. -/
import Derived.Test.YthgbkdaimnejeaaDag
namespace Go.Proofs.Ythgbkdaimnejeaa
open Go.RowKit

section
variable {P : Program} {Q : Exit → Act → World → Prop} {md : Region.Mode} {ops : Array Oper}
/-- What is to be shown of an operation. -/
def ObM (P : Program) (ops : Array Oper) (W0 : World) (a0 : Act) (L : List Nd) (nd : Nd) : Prop :=
  match ops[nd.i]? with
  | some o => ∀ w, Below W0.heap.size W0 w → overN (depsOf L nd.ds) w a0 fun a =>
      if nd.fl then o.guard = none ∧ ∃ v, nd.φ v w ∧ ∀ w', (execOp a.eval o).run P w' = .ok (.value v) w' else
      (Region.wanted o (yielded ops a.tmps) = true ∧ ∀ (K : Act → World → Prop) (Q : Exit → Act → World → Prop), (∀ v w', Below w.heap.size w w' → nd.φ v w' → K (a.put o.dst v) w') → o.wp P a w K Q) ∨
      (Region.wanted o (yielded ops a.tmps) = false ∧ nd.φ undef w)
  | none => False
theorem wpAny_dagm_go {l0 : Array Bool} {W0 : World} {a0 : Act} {L : List Nd} {g : Nat} (hD : DagOk md ops l0 L) (hds : ∀ x ∈ L, x.d < a0.tmps.size) (hQ : ∀ c a w d v, Q (.panic c) (a.put d v) w → Q (.panic c) a w) (hsl : Region.noSelect ops = true) (hob : ∀ x ∈ L, ObM P ops W0 a0 L x)
    (hfin : ∀ w, Below W0.heap.size W0 w → overN L w a0 fun a => wpAny P md ops Q g (setN l0 L) a w) :
    ∀ (m : Nat) (listed : Array Bool) (a : Act) (w : World), InvN md ops l0 W0 a0 L listed a w → cntN L listed + m = L.length → wpAny P md ops Q (m + g) listed a w := by
  intro m
  induction m with
  | zero =>
    intro listed a w hI hc
    have hall := cntN_all (by omega : cntN L listed = L.length)
    have hf := over_at (fun x => a.tmps.getD x.d undef) L w a0 (hfin w hI.bel) fun x hx => hI.fact x hx (of_getD_f (hall x hx))
    have e1 : setN l0 L = listed := by
      refine Array.ext_getElem? fun k => ?_
      by_cases hk : k < l0.size
      · rcases setN_getD k L l0 hk with ⟨h, x, hx, rfl⟩ | ⟨h, hn⟩
        · rw [h, of_getD_f (hall x hx)]
        · rw [h, hI.off k fun x hx e => hn x hx e]
      · rw [Array.getElem?_eq_none (by rw [setN_size]; omega), Array.getElem?_eq_none (by rw [hI.sz]; omega)]
    have e2 : L.foldl (fun a' x => a'.put (some x.d) (a.tmps.getD x.d undef)) a0 = a := by
      have d1 := puts_defers (fun x => a.tmps.getD x.d undef) L a0
      have d2 := puts_size (fun x => a.tmps.getD x.d undef) L a0
      have d3 : (L.foldl (fun a' x => a'.put (some x.d) (a.tmps.getD x.d undef)) a0).tmps = a.tmps := by
        refine Array.ext_getElem? fun s => ?_
        by_cases hs : ∃ x ∈ L, x.d = s
        · obtain ⟨x, hx, rfl⟩ := hs
          by_cases hlt : x.d < a0.tmps.size
          · rw [puts_at (fun x => a.tmps.getD x.d undef) x L a0 hx hD.nt hlt]
            have hlt2 : x.d < a.tmps.size := by rw [hI.ts]; exact hlt
            simp [hlt2]
          · rw [Array.getElem?_eq_none (by rw [d2]; exact Nat.not_lt.1 hlt), Array.getElem?_eq_none (by rw [hI.ts]; exact Nat.not_lt.1 hlt)]
        · rw [puts_other _ s L a0 fun x hx e => hs ⟨x, hx, e⟩]
          exact (hI.old s fun x hx _ e => hs ⟨x, hx, e⟩).symm
      rw [← hI.df] at d1
      generalize L.foldl (fun a' x => a'.put (some x.d) (a.tmps.getD x.d undef)) a0 = b at *
      obtain ⟨bt, bd⟩ := b
      obtain ⟨at', ad⟩ := a
      dsimp only at d1 d3
      rw [d1, d3]
    rw [e1, e2] at hf
    rw [Nat.zero_add]; exact hf
  | succ m ih =>
    intro listed a w hI hc
    have hls : ∀ x ∈ L, x.i < listed.size := fun x hx => by
      obtain ⟨o, ho, _⟩ := hD.nd x hx
      rw [hI.sz, hD.sz]; exact (Array.getElem?_eq_some_iff.1 ho).1
    have hun : ∀ x ∈ L, listed.getD x.i false = false → listed[x.i]? = some false := fun x hx hu => by
      have hlt := hls x hx
      rw [Array.getElem?_eq_getElem hlt]
      cases hb : listed[x.i] with
      | true => simp [hlt, hb] at hu
      | false => rfl
    rw [Nat.add_right_comm]
    by_cases hflt : ∃ x ∈ L, x.fl = true ∧ x.i ∈ Region.ready md ops listed
    · obtain ⟨x, hx, hfl, hj⟩ := hflt
      obtain ⟨hj0, o', ho, hall⟩ := mem_ready.1 hj
      have hxf := of_getD_t hj0
      obtain ⟨o2, ho2, hdst, _, hsel, hlook, hdep⟩ := hD.nd x hx
      obtain rfl : o2 = o' := by rw [ho] at ho2; cases ho2; rfl
      have hOb := hob x hx
      unfold ObM at hOb
      simp only [ho, hfl, if_true] at hOb
      have hdl : ∀ y ∈ depsOf L x.ds, y ∈ L ∧ listed[y.i]? = some true := fun y hy => by
        obtain ⟨h1, h2⟩ := List.mem_filter.1 hy
        obtain ⟨e, he, hb, hon⟩ := hdep y.i (by simpa using h2)
        exact ⟨h1, by rw [← hon]; exact of_getD_f (hall e he hb)⟩
      obtain ⟨hg, v, hv, hrun⟩ := over_at (fun y => a.tmps.getD y.d undef) (depsOf L x.ds) w a0 (hOb w hI.bel) fun y hy => hI.fact y (hdl y hy).1 (hdl y hy).2
      have hag := agreeN hD hds hI hx ho hdl hlook
      refine wpAny_first ho (Region.noSelect_spec hsl) (fun c a w => hQ c a w _ _) (m + g) listed a w (fun j oj hoj hne hl hno => (hD.late x hx hfl o2 ho).2 j oj hoj hne ?_ (fun e he hb heq => ?_) hno) hj (.inl ⟨by simp [Region.wanted, hg], fun w' => by rw [exec_agree hsel hag]; exact hrun w'⟩) ?_
      · by_cases hjl : ∃ y ∈ L, y.i = j
        · obtain ⟨y, hy, rfl⟩ := hjl
          obtain ⟨_, _, _, h0, _⟩ := hD.nd y hy
          exact h0
        · have h2 := hI.off j fun y hy e => hjl ⟨y, hy, e⟩
          have h3 := of_getD_t hl
          rw [h2] at h3
          simp [h3]
      · have h3 := of_getD_t hl
        have h4 := of_getD_f (hall e he hb)
        rw [heq, h3] at h4; cases h4
      · rw [hdst]
        exact ih _ _ _ (invN_next hD hds hI hx ho hall (Below.refl _ _) hv) (by rw [cntN_set L listed x hx hD.ni hxf]; omega)
    by_cases hhd : ∃ x ∈ L, x.fl = false ∧ listed.getD x.i false = false
    case neg =>
      exfalso
      have key : ∀ n (x : Nd), x ∈ L → x.i = n → listed.getD x.i false = false → False := by
        intro n
        induction n using Nat.strongRecOn with
        | _ n ihn =>
          intro x hx hxn hu
          obtain ⟨o, ho, _⟩ := hD.nd x hx
          have hxfl : x.fl = true := by
            cases hf : x.fl with
            | true => rfl
            | false => exact absurd ⟨x, hx, hf, hu⟩ hhd
          refine hflt ⟨x, hx, hxfl, mem_ready.2 ⟨by simp [hun x hx hu], o, ho, fun e he hb => ?_⟩⟩
          rcases (hD.late x hx hxfl o ho).1 e he hb with h | ⟨y, hy, hye⟩
          · by_cases hjl : ∃ y ∈ L, y.i = e.on
            · obtain ⟨y, hy, hye⟩ := hjl
              obtain ⟨_, _, _, h0, _⟩ := hD.nd y hy
              rw [hye] at h0
              have h5 := of_getD_t h0
              simp [h5] at h
            · have h2 := hI.off e.on fun y hy e2 => hjl ⟨y, hy, e2⟩
              have h3 := of_getD_f h
              rw [← h2] at h3
              exact getD_f h3
          · cases hl : listed.getD e.on false with
            | true => rfl
            | false => exact absurd (ihn e.on (by rw [← hxn]; exact hD.up x.i o ho e he hb) y hy hye (by rw [hye]; exact hl)) id
      obtain ⟨x0, hx0, hu0⟩ := cntN_lt (by omega : cntN L listed < L.length)
      exact key x0.i x0 hx0 rfl hu0
    obtain ⟨x0, hx0, hfl0, hu0⟩ := hhd
    have hu1 : listed[x0.i]? ≠ some true := fun e => by rw [getD_f e] at hu0; cases hu0
    have hu2 := hun x0 hx0 hu0
    refine ⟨fun h0 => absurd h0 (ready_some hD hI x0.i hu2), fun j hj => ?_⟩
    obtain ⟨x, hx, rfl⟩ := ready_head hD hI hx0 hfl0 hu1 hj
    have hfl : x.fl = false := by
      cases hf : x.fl with
      | false => rfl
      | true => exact absurd ⟨x, hx, hf, hj⟩ hflt
    obtain ⟨hj0, o, ho, hall⟩ := mem_ready.1 hj
    have hxf := of_getD_t hj0
    obtain ⟨o', ho', hdst, _, hsel, hlook, hdep⟩ := hD.nd x hx
    obtain rfl : o' = o := by rw [ho] at ho'; cases ho'; rfl
    have hOb := hob x hx
    unfold ObM at hOb
    simp only [ho, hfl, Bool.false_eq_true, if_false] at hOb
    have hdl : ∀ y ∈ depsOf L x.ds, y ∈ L ∧ listed[y.i]? = some true := fun y hy => by
      obtain ⟨h1, h2⟩ := List.mem_filter.1 hy
      obtain ⟨e, he, hb, hon⟩ := hdep y.i (by simpa using h2)
      exact ⟨h1, by rw [← hon]; exact of_getD_f (hall e he hb)⟩
    have hob1 := over_at (fun y => a.tmps.getD y.d undef) (depsOf L x.ds) w a0 (hOb w hI.bel) fun y hy => hI.fact y (hdl y hy).1 (hdl y hy).2
    have d2 := puts_size (fun y => a.tmps.getD y.d undef) (depsOf L x.ds) a0
    have hag := agreeN hD hds hI hx ho hdl hlook
    have next : ∀ v w', Below w.heap.size w w' → x.φ v w' → wpAny P md ops Q (m + g) (listed.setIfInBounds x.i true) (a.put (some x.d) v) w' := fun v w' hb hv =>
      ih _ _ _ (invN_next hD hds hI hx ho hall hb hv) (by rw [cntN_set L listed x hx hD.ni hxf]; omega)
    unfold wpOp
    simp only [ho]
    rw [wanted_agree hag]
    rcases hob1 with ⟨hw, hK⟩ | ⟨hw, hu⟩
    · rw [if_pos hw]
      refine .inl (wp_move (Ψ := fun v w' => Below w.heap.size w w' ∧ x.φ v w') hdst (exec_agree hsel hag) (by rw [d2, hI.ts]) (fun K Q' h => hK K Q' fun v w' h1 h2 => h v w' ⟨h1, h2⟩) fun v w' h => ?_)
      rw [hdst]; exact next v w' h.1 h.2
    · rw [if_neg (by rw [hw]; exact Bool.false_ne_true), hdst]
      exact next undef w (Below.refl _ _) hu
/-- What is to be shown of the operations, one by one. -/
def ObsM (P : Program) (ops : Array Oper) (W0 : World) (a0 : Act) (L : List Nd) : List Nd → Prop
  | [] => True
  | x :: l => ObM P ops W0 a0 L x ∧ ObsM P ops W0 a0 L l
theorem obsM_at {W0 : World} {a0 : Act} {L : List Nd} : ∀ {l : List Nd}, ObsM P ops W0 a0 L l → ∀ x ∈ l, ObM P ops W0 a0 L x
  | y :: l, h, x, hx => by
    rcases List.mem_cons.1 hx with rfl | hx
    · exact h.1
    · exact obsM_at h.2 x hx
theorem obsM_drew {w : World} {a0 : Act} {L : List Nd} : ∀ {l : List Nd}, ObsM P ops w a0 L l → ObsM P ops w.drew a0 L l
  | [], _ => trivial
  | x :: l, h => by
    refine ⟨?_, obsM_drew h.2⟩
    have h1 := h.1
    unfold ObM at *
    cases ho : ops[x.i]? with
    | none => rw [ho] at h1; exact h1
    | some o => rw [ho] at h1; exact fun w' hb => h1 w' (bel_drew hb)
theorem wpAny_dagm {l0 : Array Bool} {W0 : World} {a0 : Act} {g f : Nat} (L : List Nd) (hB : dagB md ops l0 (nsOf L) = true) (hds : (L.all fun x => decide (x.d < a0.tmps.size)) = true) (hf : f = L.length + g) (hsl : Region.noSelect ops = true) (hQ : ∀ c a w d v, Q (.panic c) (a.put d v) w → Q (.panic c) a w)
    (hob : ObsM P ops W0 a0 L L) (hfin : ∀ w, Below W0.heap.size W0 w → overN L w a0 fun a => wpAny P md ops Q g (setN l0 L) a w) : wpAny P md ops Q f l0 a0 W0 := by
  have hD := dagOk hB
  have hno : ∀ x ∈ L, l0[x.i]? ≠ some true := fun x hx e => by
    obtain ⟨o, _, _, h, _⟩ := hD.nd x hx
    simp [e] at h
  subst hf
  refine wpAny_dagm_go hD (fun x hx => by simpa using List.all_eq_true.1 hds x hx) hQ hsl (obsM_at hob) hfin L.length l0 a0 W0 ⟨rfl, Below.refl _ _, fun _ _ => rfl, fun k hk => .inl hk, fun x hx h => absurd h (hno x hx), rfl, rfl, fun _ _ => rfl⟩ ?_
  have : cntN L l0 = 0 := by
    unfold cntN
    rw [List.length_eq_zero_iff, List.filter_eq_nil_iff]
    intro x hx h
    exact hno x hx (of_getD_f h)
  omega
/-- A region that draws its order, outside of a fence. -/
theorem wp_region_dagm {id : Nat} {a : Act} {w : World} {l : List Oper} {g : Nat} (L : List Nd) (hm : P.follows .mixedOrders = true) (hB : dagB .any l.toArray (Array.replicate l.toArray.size false) (nsOf L) = true) (hds : (L.all fun x => decide (x.d < a.tmps.size)) = true) (hf : l.toArray.size = L.length + g) (hsl : Region.noSelect l.toArray = true) (hQ : ∀ c a w d v, Q (.panic c) (a.put d v) w → Q (.panic c) a w)
    (hob : ObsM P l.toArray w.drew a L L) (hfin : ∀ w', Below w.drew.heap.size w.drew w' → overN L w' a fun a => wpAny P .any l.toArray Q g (setN (Array.replicate l.toArray.size false) L) a w') : (Code.region id l.toArray true).wp P Q a w :=
  wp_region_any hm (wpAny_dagm (W0 := w.drew) L hB hds hf hsl hQ hob hfin)
/-- The same, where the operations from number n on come one behind the other. -/
theorem wp_region_dagmT {id : Nat} {a : Act} {w : World} {l : List Oper} (n : Nat) (L : List Nd) (hm : P.follows .mixedOrders = true) (hB : dagB .any l.toArray (Array.replicate l.toArray.size false) (nsOf L) = true) (hds : (L.all fun x => decide (x.d < a.tmps.size)) = true) (hf : (l.toArray.size == L.length + (l.drop n).length) = true)
    (hs : Region.seqB .any l.toArray (l.drop n).length n (setN (Array.replicate l.toArray.size false) L) = true) (hsl : Region.noSelect l.toArray = true) (hQ : ∀ c a w d v, Q (.panic c) (a.put d v) w → Q (.panic c) a w)
    (hob : ObsM P l.toArray w a L L) (hfin : ∀ w', Below w.heap.size w w' → overN L w' a fun a => wpList P l.toArray Q (l.drop n) a w') : (Code.region id l.toArray true).wp P Q a w :=
  wp_region_dagm (g := (l.drop n).length) L hm hB hds (by simpa using hf) hsl hQ (obsM_drew hob) fun w' hb => overN_mono (fun a h => wpAny_of_seq (l.drop n) n _ a w' (fun j => by simp [List.getElem?_drop]) hs h) L w' a (hfin w' (bel_drew hb))
/-- The same, and what is left is walked by hand. -/
theorem wp_region_dagmW {id : Nat} {a : Act} {w : World} {l : List Oper} {g : Nat} (L : List Nd) (hm : P.follows .mixedOrders = true) (hB : dagB .any l.toArray (Array.replicate l.toArray.size false) (nsOf L) = true) (hds : (L.all fun x => decide (x.d < a.tmps.size)) = true) (hf : (l.toArray.size == L.length + g) = true) (hsl : Region.noSelect l.toArray = true) (hQ : ∀ c a w d v, Q (.panic c) (a.put d v) w → Q (.panic c) a w)
    (hob : ObsM P l.toArray w a L L) (hfin : ∀ w', Below w.heap.size w w' → overN L w' a fun a => wpAny P .any l.toArray Q g (setN (Array.replicate l.toArray.size false) L) a w') : (Code.region id l.toArray true).wp P Q a w :=
  wp_region_dagm L hm hB hds (by simpa using hf) hsl hQ (obsM_drew hob) fun w' hb => hfin w' (bel_drew hb)
end
end Go.Proofs.Ythgbkdaimnejeaa
