/- Lay (layer 44). -/
import Derived.Test.YthnhnmmabjmjgaaOvdM
import Derived.Laws.EntriesVeiled
import Derived.Deep.Cut
namespace Go.Proofs.Ythnhnmmabjmjgaa
open Go.ChangeShapes Go.WideShapes Go.ChangeAt Go.RowKit Go.Shelf

attribute [local go_sem] Oper.semAt_some

def ArgOk (l : List Ht) (st k i o : Int) : Prop := OrdS l ∧ (0 ≤ st ∧ st ≤ 1099511627776) ∧ (0 ≤ k ∧ k ≤ 16777216) ∧ (0 ≤ i ∧ i ≤ 1048576) ∧ (0 ≤ o ∧ o ≤ 1048576)
instance (l : List Ht) (st k i o : Int) : Decidable (ArgOk l st k i o) := by unfold ArgOk; exact inferInstance
def layS (l : List Ht) (st k i o : Int) : Int × List Dt := if ArgOk l st k i o then (0, layF (runsL l (st - i - o) k)) else (1, [])
theorem layS_no {l : List Ht} {st k i o : Int} (h : ¬ ArgOk l st k i o) : layS l st k i o = (1, []) := if_neg h
theorem layS_yes {l : List Ht} {st k i o : Int} (h : ArgOk l st k i o) : layS l st k i o = (0, layF (runsL l (st - i - o) k)) := if_pos h
set_option maxRecDepth 100000 in
set_option maxHeartbeats 4000000 in
theorem lay_no (a : Option Addr) (n cap b off : Nat) (l : List Ht) (st k i o : Int) (w : World) (hM : Hs w a n b off l) (hn : n ≤ 9223372036854775807) (h : ¬ ArgOk l st k i o) :
    Calls Try.prog 11 #[.slice a n cap, .int .i64 st, .int .i64 k, .int .i64 i, .int .i64 o] w fun e w' => e = .returned (.tuple #[.slice none 0 0, .int .i64 1]) ∧ Below w.heap.size w w' := by
  obtain ⟨W0, hW0⟩ : ∃ W0, W0 = w.alloc (.cells #[.slice none 0 0] 24) := ⟨_, rfl⟩
  have hB0 : Below w.heap.size w W0 := by rw [hW0]; go_grown
  have k0 : W0.heap[w.heap.size]? = some (.cells #[.slice none 0 0] 24 (0, 0)) := by rw [hW0]; exact blk_new _ _
  go_enter Try.func11, Try.ntmps11
  go_upto_region 1 with fail
  rw [← hW0]
  clear hW0
  go_wp2_with fail
  refine (ordered_any a n cap b off l W0 (hM.grown hB0) hn).mono ?_
  rintro e W1 ⟨rfl, hb⟩
  have H1 := Lib.hid (show _ ∧ _ from ⟨blk_below k0 hb (Array.getElem?_eq_some_iff.1 k0).1, below_after hB0 hb hB0.size⟩)
  clear hb hM k0 hB0
  by_cases q : OrdS l
  case neg =>
    rw [decide_eq_false q]
    clear q h
    have c0 := blk_cell H1.out.1 0; have f0 := blk_free H1.out.1 0
    simp at c0
    go_wp2_with (first | (go_at_call 27; refine (within_any _ _ _ _).mono ?_; rintro e w' ⟨rfl, rfl⟩))
    have hE := one_setCell (u := .slice none 0 0) H1.out.1
    have e0' := blk_cell hE 0
    simp at e0'
    exact bodyPost_ret (v := .tuple #[.slice none 0 0, .int .i64 1]) (by simp [results, Try.results11, go_sem, e0']) rfl ⟨rfl, H1.out.2.setCell (p := ⟨w.heap.size, 0, none⟩) (Nat.le_refl _) _⟩
  rw [decide_eq_true q]
  by_cases q0 : 0 ≤ st ∧ st ≤ 1099511627776
  case neg =>
    have v0 := within_f q0
    clear h q q0
    have c0 := blk_cell H1.out.1 0; have f0 := blk_free H1.out.1 0
    simp at c0
    go_wp2_with (first | (go_at_call 27; refine (within_any _ _ _ _).mono ?_; rintro e w' ⟨rfl, rfl⟩))
    have hE := one_setCell (u := .slice none 0 0) H1.out.1
    have e0' := blk_cell hE 0
    simp at e0'
    exact bodyPost_ret (v := .tuple #[.slice none 0 0, .int .i64 1]) (by simp [results, Try.results11, go_sem, e0']) rfl ⟨rfl, H1.out.2.setCell (p := ⟨w.heap.size, 0, none⟩) (Nat.le_refl _) _⟩
  have v0 := within_t q0
  by_cases q1 : 0 ≤ k ∧ k ≤ 16777216
  case neg =>
    have v1 := within_f q1
    clear h q q1
    have c0 := blk_cell H1.out.1 0; have f0 := blk_free H1.out.1 0
    simp at c0
    go_wp2_with (first | (go_at_call 27; refine (within_any _ _ _ _).mono ?_; rintro e w' ⟨rfl, rfl⟩))
    have hE := one_setCell (u := .slice none 0 0) H1.out.1
    have e0' := blk_cell hE 0
    simp at e0'
    exact bodyPost_ret (v := .tuple #[.slice none 0 0, .int .i64 1]) (by simp [results, Try.results11, go_sem, e0']) rfl ⟨rfl, H1.out.2.setCell (p := ⟨w.heap.size, 0, none⟩) (Nat.le_refl _) _⟩
  have v1 := within_t q1
  by_cases q2 : 0 ≤ i ∧ i ≤ 1048576
  case neg =>
    have v2 := within_f q2
    clear h q q2
    have c0 := blk_cell H1.out.1 0; have f0 := blk_free H1.out.1 0
    simp at c0
    go_wp2_with (first | (go_at_call 27; refine (within_any _ _ _ _).mono ?_; rintro e w' ⟨rfl, rfl⟩))
    have hE := one_setCell (u := .slice none 0 0) H1.out.1
    have e0' := blk_cell hE 0
    simp at e0'
    exact bodyPost_ret (v := .tuple #[.slice none 0 0, .int .i64 1]) (by simp [results, Try.results11, go_sem, e0']) rfl ⟨rfl, H1.out.2.setCell (p := ⟨w.heap.size, 0, none⟩) (Nat.le_refl _) _⟩
  have v2 := within_t q2
  by_cases q3 : 0 ≤ o ∧ o ≤ 1048576
  case neg =>
    have v3 := within_f q3
    clear h q q3
    have c0 := blk_cell H1.out.1 0; have f0 := blk_free H1.out.1 0
    simp at c0
    go_wp2_with (first | (go_at_call 27; refine (within_any _ _ _ _).mono ?_; rintro e w' ⟨rfl, rfl⟩))
    have hE := one_setCell (u := .slice none 0 0) H1.out.1
    have e0' := blk_cell hE 0
    simp at e0'
    exact bodyPost_ret (v := .tuple #[.slice none 0 0, .int .i64 1]) (by simp [results, Try.results11, go_sem, e0']) rfl ⟨rfl, H1.out.2.setCell (p := ⟨w.heap.size, 0, none⟩) (Nat.le_refl _) _⟩
  have v3 := within_t q3
  exact absurd ⟨q, q0, q1, q2, q3⟩ h

set_option maxRecDepth 100000 in
set_option maxHeartbeats 8000000 in
theorem lay_in (a : Option Addr) (n cap b off : Nat) (l : List Ht) (st k i o : Int) (w : World) (hM : Hs w a n b off l) (hcap : n ≤ cap) (hcm : cap ≤ 9223372036854775807) (h : ArgOk l st k i o) :
    CallsIn Fence.wide 5 Try.prog 11 #[.slice a n cap, .int .i64 st, .int .i64 k, .int .i64 i, .int .i64 o] w fun e w' => ∃ v, e = .returned (.tuple #[v, .int .i64 0]) ∧ DsO w' w.heap.size v (layF (runsL l (st - i - o) k)) ∧ Below w.heap.size w w' := by
  obtain ⟨W0, hW0⟩ : ∃ W0, W0 = w.alloc (.cells #[.slice none 0 0] 24) := ⟨_, rfl⟩
  have hB0 : Below w.heap.size w W0 := by rw [hW0]; go_grown
  have k0 : W0.heap[w.heap.size]? = some (.cells #[.slice none 0 0] 24 (0, 0)) := by rw [hW0]; exact blk_new _ _
  have HM := Lib.hid hM
  have hlen := hM.1
  clear hM
  refine callsIn_of_wp_marks Try.func11 rfl trivial ?_ rfl
  simp only [Try.ntmps11, List.size_toArray, List.length_cons, List.length_nil, Nat.reduceAdd, Nat.reduceSub, Array.replicate_succ, Array.replicate_zero, List.push_toArray, List.append_toArray, List.nil_append, List.cons_append]
  gi_upto_region 1 with fail
  rw [← hW0]
  clear hW0
  gi_wp2
  refine ⟨trivial, ?_⟩
  refine (callsIn_wide.2 (ordered_any a n cap b off l W0 (HM.out.grown hB0) (by omega))).mono ?_
  rintro e W1 ⟨rfl, hb⟩
  have H1 := Lib.hid (show _ ∧ _ from ⟨blk_below k0 hb (Array.getElem?_eq_some_iff.1 k0).1, below_after hB0 hb hB0.size⟩)
  clear hb k0 hB0
  obtain ⟨q, q0, q1, q2, q3⟩ := h
  rw [decide_eq_true q]
  have v0 := within_t q0; have v1 := within_t q1; have v2 := within_t q2; have v3 := within_t q3
  gi_wp2
  refine ⟨trivial, ?_⟩
  refine (callsIn_wide.2 (within_any _ _ _ _)).mono ?_
  rintro e w' ⟨rfl, hw'⟩; subst w'
  rw [v0]
  gi_wp2
  refine ⟨trivial, ?_⟩
  refine (callsIn_wide.2 (within_any _ _ _ _)).mono ?_
  rintro e w' ⟨rfl, hw'⟩; subst w'
  rw [v1]
  gi_wp2
  refine ⟨trivial, ?_⟩
  refine (callsIn_wide.2 (within_any _ _ _ _)).mono ?_
  rintro e w' ⟨rfl, hw'⟩; subst w'
  rw [v2]
  gi_wp2
  refine ⟨trivial, ?_⟩
  refine (callsIn_wide.2 (within_any _ _ _ _)).mono ?_
  rintro e w' ⟨rfl, hw'⟩; subst w'
  rw [v3]
  gi_wp2
  clear v0 v1 v2 v3
  refine ⟨trivial, ?_⟩
  refine (runs_in _ _ _ _ _ _ _).mono ?_
  rintro e w' ⟨rfl, hw'⟩; subst w'
  obtain ⟨fi, hfi⟩ : ∃ fi, fi = st - i - o := ⟨_, rfl⟩
  rw [← hfi]
  have hf0 : -2097152 ≤ fi := by omega
  have hf1 : fi ≤ 1099511627776 := by omega
  have HFI := Lib.hid hfi
  clear hfi
  have hxW : w.heap.size < W1.heap.size := (Array.getElem?_eq_some_iff.1 H1.out.1).1
  obtain ⟨X, hX⟩ : ∃ X, X = W1.heap.size := ⟨_, rfl⟩
  obtain ⟨W4, hW4⟩ : ∃ W4, W4 = ((W1.alloc (.cells #[.slice a n cap] 22)).alloc (.cells #[.int .i64 fi] 3)).alloc (.cells #[.int .i64 k] 3) := ⟨_, rfl⟩
  have hB4 : Below W1.heap.size W1 W4 := by rw [hW4]; go_grown
  have n1 : W4.heap[X]? = some (.cells #[.slice a n cap] 22 (0, 0)) := by rw [hW4, hX]; exact blk_alloc (blk_alloc (blk_new _ _) _) _
  have n2 : W4.heap[X + 1]? = some (.cells #[.int .i64 fi] 3 (0, 0)) := by rw [hW4, hX]; have := blk_new (W1.alloc (.cells #[.slice a n cap] 22)) (.cells #[.int .i64 fi] 3); rw [World.size_alloc] at this; exact blk_alloc this _
  have n3 : W4.heap[X + 1 + 1]? = some (.cells #[.int .i64 k] 3 (0, 0)) := by rw [hW4, hX]; have := blk_new ((W1.alloc (.cells #[.slice a n cap] 22)).alloc (.cells #[.int .i64 fi] 3)) (.cells #[.int .i64 k] 3); rw [World.size_alloc, World.size_alloc] at this; exact this
  have z4 : W4.heap.size = X + 3 := by rw [hW4, hX]; simp
  have hR := (show LaR w W4 (X + 3) [] from ⟨⟨_, blk_below H1.out.1 hB4 (by omega), DsO.nil _ _⟩, below_after H1.out.2 hB4 (by omega), by omega, by omega⟩)
  have HR := Lib.hid (show _ ∧ _ ∧ _ ∧ _ from ⟨hR, n1, n2, n3⟩)
  rw [← hX] at hxW
  clear hR n1 n2 n3 hB4 H1
  rw [← hX, ← hW4]
  clear hW4 hX
  gi_wp2
  have hbA := fun h0 => (HM.out.2.1 h0).2
  refine wpIn_rangeFunc_ownH rfl (by omega) (gf := 36) (lb := #[.pointer (some ⟨X, 0, none⟩), .pointer (some ⟨X + 1, 0, none⟩), .pointer (some ⟨X + 1 + 1, 0, none⟩)]) rfl trivial (enters_of Try.func36 (by kernel_rfl) rfl)
    (runs_stopsO _ (by omega) X (X + 1) (X + 1 + 1) b off n cap a l fi k (ownV w (X + 3)) q hlen hcap hcm hf0 hf1 q1.1 q1.2 W4 HR.out.2.1 HR.out.2.2.1 HR.out.2.2.2 (HM.out.grown HR.out.1.bel)
      (by rintro (⟨h, _⟩ | ⟨h, _⟩) <;> omega) (by rintro (⟨h, _⟩ | ⟨h, _⟩) <;> omega) (fun h0 ob => by have := hbA h0; rintro (⟨h, _⟩ | ⟨h, _⟩) <;> omega))
    kpO_t kpO_b (Below.refl _ _) (fun _ => rfl)
    (fun pre W => LaR w W (X + 3) (layF (ruL pre)))
    (fun c pre W => False)
    (fun pre A B row hs hg hr => hs.grown hg fun q e => ⟨by have := (hr q e).1; omega, (hr q e).2⟩)
    (fun c => fun _ _ _ _ hs _ _ => hs)
    HR.out.1
    (fun x a' W => ∃ (Bx : Nat) (v : Value), W.heap[w.heap.size]? = some (.cells #[v] 24 (0, 0)) ∧ some Bx ≠ v.ownBlock ∧ X + 3 ≤ Bx ∧ W.heap[Bx]? = some (.cells #[.int .i64 x.1.1, .int .i64 x.1.2.1, .int .i64 x.1.2.2.1, .int .i64 x.1.2.2.2] 52 (0, 0)) ∧ a' = { tmps := List.toArray ((Value.slice a n cap : Value) :: (Value.int .i64 st : Value) :: (Value.int .i64 k : Value) :: (Value.int .i64 i : Value) :: (Value.int .i64 o : Value) :: (undef : Value) :: (undef : Value) :: (undef : Value) :: (undef : Value) :: (undef : Value) :: (.pointer (some ⟨w.heap.size, 0, none⟩) : Value) :: (.int .i64 0 : Value) :: (.pointer (some ⟨Bx, 0, none⟩) : Value) :: (undef : Value) :: (.slice a n cap : Value) :: (.bool true : Value) :: (.bool false : Value) :: (.bool false : Value) :: (.int .i64 st : Value) :: (.bool true : Value) :: (.bool false : Value) :: (.bool false : Value) :: (.bool false : Value) :: (.int .i64 k : Value) :: (.bool true : Value) :: (.bool false : Value) :: (.bool false : Value) :: (.bool false : Value) :: (.int .i64 i : Value) :: (.bool true : Value) :: (.bool false : Value) :: (.bool false : Value) :: (.bool false : Value) :: (.int .i64 o : Value) :: (.bool true : Value) :: (.bool false : Value) :: (.bool false : Value) :: (.slice a n cap : Value) :: (.int .i64 st : Value) :: (.int .i64 i : Value) :: (.int .i64 (st - i) : Value) :: (.int .i64 o : Value) :: (.int .i64 fi : Value) :: (.int .i64 k : Value) :: (.func (.func 36) #[] #[.pointer (some ⟨X, 0, none⟩), .pointer (some ⟨X + 1, 0, none⟩), .pointer (some ⟨X + 1 + 1, 0, none⟩)] : Value) :: (.agg #[.int .i64 x.1.1, .int .i64 x.1.2.1, .int .i64 x.1.2.2.1, .int .i64 x.1.2.2.2] : Value) :: (undef : Value) :: (undef : Value) :: (undef : Value) :: (undef : Value) :: (undef : Value) :: (undef : Value) :: (undef : Value) :: (undef : Value) :: (undef : Value) :: (undef : Value) :: (undef : Value) :: (undef : Value) :: (undef : Value) :: (undef : Value) :: (undef : Value) :: (undef : Value) :: (undef : Value) :: (undef : Value) :: (undef : Value) :: (undef : Value) :: (undef : Value) :: (undef : Value) :: (undef : Value) :: (undef : Value) :: (undef : Value) :: (undef : Value) :: (undef : Value) :: (undef : Value) :: (undef : Value) :: (undef : Value) :: (undef : Value) :: (undef : Value) :: (undef : Value) :: (undef : Value) :: (undef : Value) :: (undef : Value) :: (undef : Value) :: (undef : Value) :: (undef : Value) :: (undef : Value) :: (undef : Value) :: (undef : Value) :: (undef : Value) :: (undef : Value) :: (undef : Value) :: (undef : Value) :: (undef : Value) :: (undef : Value) :: (undef : Value) :: (undef : Value) :: (undef : Value) :: (undef : Value) :: (undef : Value) :: (undef : Value) :: (undef : Value) :: (undef : Value) :: (undef : Value) :: (undef : Value) :: (undef : Value) :: (undef : Value) :: (undef : Value) :: (undef : Value) :: (undef : Value) :: (undef : Value) :: (undef : Value) :: (undef : Value) :: (undef : Value) :: (undef : Value) :: (undef : Value) :: (undef : Value) :: (undef : Value) :: (undef : Value) :: (undef : Value) :: (undef : Value) :: []), defers := [] }) (fun x a' => Own.from (fun s A B row hs hg hr => by obtain ⟨Bx, v, h1, h2, h3, h4, h5⟩ := hs; exact ⟨Bx, v, blk_kept h1 hg hr, h2, h3, blk_kept h4 hg hr, h5⟩) _) ?assign ?body ?done ?stop
  case assign =>
    rintro lp pre x W K hI hK
    simp only [eD]
    gi_wp2
    obtain ⟨v, hv, hO⟩ := hI.s0
    have hne : some W.heap.size ≠ v.ownBlock := fun e => by have := (World.ownsRow.lt hO _ e.symm).2; omega
    exact hK _ _ ((KeepsOthers.alloc _ _).from _) (KpO.alloc _ _ _) (hI.below ((Below.refl _ _).alloc (Nat.le_refl _) _)) ⟨W.heap.size, v, blk_alloc hv _, hne, hI.bb, blk_new W _, rfl⟩
  case body =>
    rintro lp pre x a' W _ _ hI ⟨Bx, v, hv, hne, hBx, hX, rfl⟩ hpl
    obtain ⟨v', hv', hO⟩ := hI.s0
    obtain rfl : v' = v := by rw [hv] at hv'; cases hv'; rfl
    clear hv'
    obtain ⟨hok, hln⟩ := layF_ok pre
    have hsn : layF (ruL (pre ++ [x])) = stepD (layF (ruL pre)) x.1 := by unfold ruL; rw [List.map_append]; exact layF_snoc _ _
    obtain ⟨x, hxp⟩ := x
    dsimp only at *
    generalize layF (ruL pre) = xs at *
    have hxr := hxp
    obtain ⟨x0, x1, x2, x3⟩ := x
    unfold RunOk at hxr
    dsimp only at hxr hX
    obtain rfl : x3 = 0 := hxr.2.2.2.2.2
    have n65 : n ≤ 65536 := by rw [← hlen]; exact q.1
    have hbl := (Array.getElem?_eq_some_iff.1 hX).1
    have hxW2 := (Array.getElem?_eq_some_iff.1 hv).1
    have hbb := hI.bb
    obtain ⟨va, vb, vc, rfl, hDs, -, hz, hcp, hmx⟩ := hO.s
    have hst1 := fun h => stepD_first (x := xs) (r := (x0, x1, x2, 0)) h
    have hst2 := fun h h2 => stepD_on (x := xs) (r := (x0, x1, x2, 0)) h h2
    have hst3 := fun h h2 => stepD_new (x := xs) (r := (x0, x1, x2, 0)) h h2
    rw [← hsn] at hst1 hst2 hst3
    have hm65 : xs.length ≤ 65536 := by omega
    generalize hml : xs.length = m at *
    have HF := Lib.hid (show _ ∧ _ ∧ _ ∧ _ from ⟨hst1, hst2, hst3, hml⟩)
    have b0 : W.cell? ⟨w.heap.size, 0, none⟩ = _ := blk_cell hv 0
    simp at b0
    have HI := Lib.hid (show _ ∧ _ ∧ _ ∧ _ ∧ _ from ⟨hI, hv, hO, hX, hne⟩)
    have HOK := Lib.hid hok
    clear hst1 hst2 hst3 hsn hI hv hO hX hne HR hok hpl hln
    by_cases hm0 : m = 0
    · have z : ((m : Int) == 0) = true := by simp; omega
      have N := Lib.hid (HF.out.1 hm0)
      have hx0 : xs = [] := List.eq_nil_of_length_eq_zero (HF.out.2.2.2.trans hm0)
      have HX0 := Lib.hid hx0
      have r0 := blk_cell HI.out.2.2.2.1 0; have r1 := blk_cell HI.out.2.2.2.1 1; have r2 := blk_cell HI.out.2.2.2.1 2; have r3 := blk_cell HI.out.2.2.2.1 3
      simp at r0 r1 r2 r3
      clear hx0 hml hm0 hDs
      gi_upto_region 6 with fail
      gi_wp2_with (gi_at_builtin; refine wpListIn_append_D rfl _ _ rfl (X + 3) (.slice va m vc) xs rfl (HI.out.2.2.1.alloc _) W.heap.size (x0, x1, x2, 0) rfl 52 (0, 0) (blk_new _ _) (by rw [HF.out.2.2.2]; omega) (by first | omega | (simp; omega)) ?_; intro v2 w2 hO2 hB2 hG2; obtain ⟨ga2, gm2, gc2, rfl⟩ : ∃ a m c, v2 = .slice a m c := (by obtain ⟨a', _, c', h', _⟩ := hO2.s; exact ⟨a', _, c', h'⟩); have c9 : w2.cell? ⟨w.heap.size, 0, none⟩ = _ := blk_cell (blk_below (blk_alloc HI.out.2.1 _) hB2 (by omega)) 0; have f9 : w2.frozen? ⟨w.heap.size, 0, none⟩ = false := blk_free (blk_below (blk_alloc HI.out.2.1 _) hB2 (by omega)) 0; have HP2 := Lib.hid (HI.out.1.push HI.out.2.1 HI.out.2.2.1 hO2 hG2); clear hO2 hB2 hG2)
      exact ⟨HP2.out.1.from _, HP2.out.2.1, by dsimp only; rw [N.out]; have := HP2.out.2.2; rwa [HX0.out] at this⟩
    have z : ((m : Int) == 0) = false := by simp; omega
    obtain ⟨g, c', hveq, hgY⟩ := HI.out.2.2.1.inBlock hml (by omega)
    cases hveq
    obtain ⟨J, hJ⟩ : ∃ J, J = m - 1 := ⟨_, rfl⟩
    have hJm : J < m := by omega
    have hw : IntKind.i64.wrap ((m : Int) - 1) = (J : Int) := by rw [IntKind.wrap_i64]; omega
    have hla : nthD xs J = lastD xs := by unfold lastD; rw [hml, hJ]
    have hlo := HOK.out _ (lastD_mem (x := xs) (by omega))
    rw [← hla] at hlo
    have HJ := Lib.hid (show _ ∧ _ from ⟨hJ, hla⟩)
    have hgBx : Bx ≠ g := fun e => HI.out.2.2.2.2 (by rw [e]; rfl)
    clear hml hJ hla
    have r3 := blk_cell HI.out.2.2.2.1 3; have f3 := blk_free HI.out.2.2.2.1 3
    simp at r3
    obtain ⟨d0, d1, d2, d3⟩ := hDs.2.2 J hJm
    have hgb : g = vb := by have := (hDs.2.1 (by omega)).1; cases this; rfl
    subst hgb
    simp only [Nat.zero_add] at d0 d1 d2 d3
    clear hDs
    generalize hy : nthD xs J = y at *
    obtain ⟨y0, y1, y2, y3⟩ := y
    have HY := Lib.hid hy
    clear hy
    unfold LaidOk at hlo
    dsimp only at d0 d1 d2 d3 hlo
    gi_upto_region 9 with fail
    have H5 := Lib.hid (HI.out.1.boxed (i := 3) (u := .int .i64 y3) HI.out.2.1 HI.out.2.2.1 HI.out.2.2.2.2 hBx HI.out.2.2.2.1)
    have hsz5 : W.heap.size ≤ (W.setCell ⟨Bx, 3, none⟩ (.int .i64 y3)).heap.size := by rw [World.size_setCell]; exact Nat.le_refl _
    replace d0 := cell_regrown (cell_farD (j := 3) (u := .int .i64 y3) (show g ≠ Bx from fun e => hgBx e.symm) d0)
    replace d1 := cell_regrown (cell_farD (j := 3) (u := .int .i64 y3) (show g ≠ Bx from fun e => hgBx e.symm) d1)
    replace d2 := cell_regrown (cell_farD (j := 3) (u := .int .i64 y3) (show g ≠ Bx from fun e => hgBx e.symm) d2)
    replace d3 := cell_regrown (cell_farD (j := 3) (u := .int .i64 y3) (show g ≠ Bx from fun e => hgBx e.symm) d3)
    generalize W.setCell ⟨Bx, 3, none⟩ (.int .i64 y3) = W5 at *
    clear r3 f3 b0
    have r0 := blk_cell H5.out.2.2.2.2.2 0; have r1 := blk_cell H5.out.2.2.2.2.2 1; have r2 := blk_cell H5.out.2.2.2.2.2 2; have r3 := blk_cell H5.out.2.2.2.2.2 3
    simp at r0 r1 r2 r3
    replace r0 := cell_regrown r0; replace r1 := cell_regrown r1; replace r2 := cell_regrown r2; replace r3 := cell_regrown r3
    have hrun := run_eq_D (x0, x1, x2, y3) (y0 + y1, x1, y2 + y1, y3)
    dsimp only [encD] at hrun
    have hla := HJ.out.2
    by_cases hgo : goesOn (y0, y1, y2, y3) (x0, x1, x2, 0)
    · rw [decide_eq_true (show ((x0, x1, x2, y3) : Dt) = (y0 + y1, x1, y2 + y1, y3) by obtain ⟨h1, h2⟩ := hgo; dsimp only at h1 h2; rw [h1, h2])] at hrun
      have N := Lib.hid (HF.out.2.1 (by omega) (by rw [← hla]; exact hgo))
      have HLA := Lib.hid hla
      clear hla hgo
      refine wpIn_round_quiet_below (by kernel_rfl) (by kernel_rfl) (by rintro ⟨_, _, h⟩; exact h) (by kernel_rfl) ?_
      repeat (go_big_quiet_step ((fail)))
      refine wpQuiet_nil ?_
      intro W6 hb6'
      have hb6 := of_regrown hb6'
      clear hb6'
      clear hrun d0 d1 d2 d3 r0 r1 r2 r3
      have hL6 := H5.out.2.2.1.below hb6
      have hO6 := H5.out.2.2.2.2.1.below hb6 (Nat.le_refl _)
      have hv6 := blk_below H5.out.2.2.2.1 hb6 (Array.getElem?_eq_some_iff.1 H5.out.2.2.2.1).1
      have hX6 := blk_below H5.out.2.2.2.2.2 hb6 (Array.getElem?_eq_some_iff.1 H5.out.2.2.2.2.2).1
      have d1 := hO6.cellAt HF.out.2.2.2 (J * 4 + 1) (by omega)
      rw [(encLD_get xs J (by rw [HF.out.2.2.2]; exact hJm)).2.1, HY.out] at d1
      have r1 := blk_cell hX6 1
      simp at r1
      replace d1 := cell_regrown d1; replace r1 := cell_regrown r1
      have H6 := Lib.hid (show _ ∧ _ ∧ _ ∧ _ ∧ _ ∧ _ from ⟨hL6, hO6, hv6, hX6, H5.out.1.trans (keeps_below hb6), kpO_t H5.out.2.1 (KpO.below _ hb6)⟩)
      have hsz6 := hb6.size
      clear hL6 hO6 hv6 hX6 hb6
      gi_upto_region 10 with fail
      refine wpIn_round_grow_tail 9 (by kernel_rfl) (by kernel_rfl) (by rintro ⟨_, _, h⟩; exact h) (by kernel_rfl) ?_
      simp only [List.take_succ_cons, List.take_zero, List.drop_succ_cons, List.drop_zero]
      repeat (go_big_quiet_step (fail))
      refine wpQuiet_nil ?_
      intro W7 hb7'
      have hb7 := of_regrown hb7'
      clear hb7' d1 r1
      have hO7 := H6.out.2.1.below hb7 (Nat.le_refl _)
      have hv7 := blk_below H6.out.2.2.1 hb7 (Array.getElem?_eq_some_iff.1 H6.out.2.2.1).1
      have H7 := Lib.hid (show _ ∧ _ ∧ _ from ⟨LaR.longer (u := y1 + x1) (H6.out.1.below hb7) hv7 hO7 HF.out.2.2.2 J hJm, H6.out.2.2.2.2.1.trans (keeps_below hb7), kpO_t H6.out.2.2.2.2.2 (KpO.below _ hb7)⟩)
      have e1 := hO7.cellAt HF.out.2.2.2 (J * 4 + 1) (by omega)
      rw [(encLD_get xs J (by rw [HF.out.2.2.2]; exact hJm)).2.1, HY.out] at e1
      have g1 := hO7.freeAt HF.out.2.2.2 (J * 4 + 1)
      clear hO7 hv7 hb7
      go_wp2
      gi_wp2
      exact ⟨(H7.out.2.1.trans H7.out.1.1).from _, kpO_t H7.out.2.2 H7.out.1.2.1, by
        dsimp only
        rw [N.out, ← HJ.out.1, ← HLA.out]
        have := H7.out.1.2.2
        rw [HY.out] at this
        exact this⟩
    rw [decide_eq_false (show ¬ ((x0, x1, x2, y3) : Dt) = (y0 + y1, x1, y2 + y1, y3) from fun e => hgo (by simp only [Prod.mk.injEq] at e; exact ⟨e.1, e.2.2.1⟩))] at hrun
    have N := Lib.hid (HF.out.2.2.1 (by omega) (by rw [← hla]; exact hgo))
    have hpd : passD (lastD xs) (x0, x1, x2, 0) = if x2 < y2 + y1 then y3 + 1 else y3 := by rw [← hla]; rfl
    clear hla hgo
    refine wpIn_round_quiet_below (by kernel_rfl) (by kernel_rfl) (by rintro ⟨_, _, h⟩; exact h) (by kernel_rfl) ?_
    repeat (go_big_quiet_step ((fail)))
    refine wpQuiet_nil ?_
    intro W6 hb6'
    have hb6 := of_regrown hb6'
    clear hb6'
    clear hrun d0 d1 d2 d3 r0 r1 r2 r3
    have hL6 := H5.out.2.2.1.below hb6
    have hO6 := H5.out.2.2.2.2.1.below hb6 (Nat.le_refl _)
    have hv6 := blk_below H5.out.2.2.2.1 hb6 (Array.getElem?_eq_some_iff.1 H5.out.2.2.2.1).1
    have hX6 := blk_below H5.out.2.2.2.2.2 hb6 (Array.getElem?_eq_some_iff.1 H5.out.2.2.2.2.2).1
    have d1 := hO6.cellAt HF.out.2.2.2 (J * 4 + 1) (by omega)
    rw [(encLD_get xs J (by rw [HF.out.2.2.2]; exact hJm)).2.1, HY.out] at d1
    have d2 := hO6.cellAt HF.out.2.2.2 (J * 4 + 2) (by omega)
    rw [(encLD_get xs J (by rw [HF.out.2.2.2]; exact hJm)).2.2.1, HY.out] at d2
    have r2 := blk_cell hX6 2
    simp at r2
    replace d1 := cell_regrown d1; replace d2 := cell_regrown d2; replace r2 := cell_regrown r2
    have H6 := Lib.hid (show _ ∧ _ ∧ _ ∧ _ ∧ _ ∧ _ from ⟨hL6, hO6, hv6, hX6, H5.out.1.trans (keeps_below hb6), kpO_t H5.out.2.1 (KpO.below _ hb6)⟩)
    have hsz6 := hb6.size
    clear hL6 hO6 hv6 hX6 hb6
    gi_upto_region 11 with fail
    by_cases hlt : x2 < y2 + y1
    · have zl : decide (x2 < y2 + y1) = true := decide_eq_true hlt
      have hps := Lib.hid (hpd.trans (if_pos hlt))
      refine wpIn_round_quiet_below (by kernel_rfl) (by kernel_rfl) (by rintro ⟨_, _, h⟩; exact h) (by kernel_rfl) ?_
      repeat (go_big_quiet_step ((fail)))
      refine wpQuiet_nil ?_
      intro W7 hb7'
      have hb7 := of_regrown hb7'
      clear hb7'
      clear d1 d2 r2
      have h7 : LaR w W7 (X + 3) xs ∧ DsO W7 (X + 3) (.slice (some ⟨g, 0, none⟩) m vc) xs ∧ W7.heap[w.heap.size]? = some (.cells #[.slice (some ⟨g, 0, none⟩) m vc] 24 (0, 0)) ∧ W7.heap[Bx]? = some (.cells #[.int .i64 x0, .int .i64 x1, .int .i64 x2, .int .i64 y3] 52 (0, 0)) := ⟨H6.out.1.below hb7, H6.out.2.1.below hb7 (Nat.le_refl _), blk_below H6.out.2.2.1 hb7 (Array.getElem?_eq_some_iff.1 H6.out.2.2.1).1, blk_below H6.out.2.2.2.1 hb7 (Array.getElem?_eq_some_iff.1 H6.out.2.2.2.1).1⟩
      have r3 := blk_cell h7.2.2.2 3; have f3 := blk_free h7.2.2.2 3
      simp at r3
      have hsz7 := hb7.size
      have hb8 := h7.1.boxed (i := 3) (u := .int .i64 (y3 + 1)) h7.2.2.1 h7.2.1 HI.out.2.2.2.2 hBx h7.2.2.2
      have H8 := Lib.hid (show _ ∧ _ ∧ _ ∧ _ from ⟨hb8.2.2.1, hb8.2.2.2.2.1, hb8.2.2.2.1, hb8.2.2.2.2.2⟩)
      have HK := Lib.hid (show _ ∧ _ from ⟨H6.out.2.2.2.2.1.trans ((keeps_below hb7).trans hb8.1), kpO_t H6.out.2.2.2.2.2 (kpO_t (KpO.below _ hb7) hb8.2.1)⟩)
      have hsz8 : W7.heap.size ≤ (W7.setCell ⟨Bx, 3, none⟩ (.int .i64 (y3 + 1))).heap.size := by rw [World.size_setCell]; exact Nat.le_refl _
      clear h7 hb7 hb8 hlt
      gi_upto_region 13 with fail
      clear r3 f3
      generalize W7.setCell ⟨Bx, 3, none⟩ (.int .i64 (y3 + 1)) = W8 at *
      replace hps := hps.out
      have r0 := blk_cell H8.out.2.2.2 0; have r1 := blk_cell H8.out.2.2.2 1; have r2 := blk_cell H8.out.2.2.2 2; have r3 := blk_cell H8.out.2.2.2 3
      have b0 : W8.cell? ⟨w.heap.size, 0, none⟩ = _ := blk_cell H8.out.2.2.1 0
      simp at r0 r1 r2 r3 b0
      gi_wp2_with (gi_at_builtin; refine wpListIn_append_D rfl _ _ rfl (X + 3) (.slice (some ⟨g, 0, none⟩) m vc) xs rfl (H8.out.2.1.alloc _) W8.heap.size (x0, x1, x2, y3 + 1) rfl 52 (0, 0) (blk_new _ _) (by rw [HF.out.2.2.2]; omega) (by first | omega | (simp; omega)) ?_; intro v2 w2 hO2 hB2 hG2; obtain ⟨ga2, gm2, gc2, rfl⟩ : ∃ a m c, v2 = .slice a m c := (by obtain ⟨a', _, c', h', _⟩ := hO2.s; exact ⟨a', _, c', h'⟩); have c9 : w2.cell? ⟨w.heap.size, 0, none⟩ = _ := blk_cell (blk_below (blk_alloc H8.out.2.2.1 _) hB2 (by omega)) 0; have f9 : w2.frozen? ⟨w.heap.size, 0, none⟩ = false := blk_free (blk_below (blk_alloc H8.out.2.2.1 _) hB2 (by omega)) 0; have HP2 := Lib.hid (H8.out.1.push H8.out.2.2.1 H8.out.2.1 hO2 hG2); clear hO2 hB2 hG2)
      exact ⟨(HK.out.1.trans HP2.out.1).from _, kpO_t HK.out.2 HP2.out.2.1, by dsimp only; rw [N.out, hps]; exact HP2.out.2.2⟩
    · have zl : decide (x2 < y2 + y1) = false := decide_eq_false hlt
      have hps := Lib.hid (hpd.trans (if_neg hlt))
      refine wpIn_round_quiet_below (by kernel_rfl) (by kernel_rfl) (by rintro ⟨_, _, h⟩; exact h) (by kernel_rfl) ?_
      repeat (go_big_quiet_step ((fail)))
      refine wpQuiet_nil ?_
      intro W7 hb7'
      have hb7 := of_regrown hb7'
      clear hb7'
      clear d1 d2 r2
      have H8 := Lib.hid (show LaR w W7 (X + 3) xs ∧ DsO W7 (X + 3) (.slice (some ⟨g, 0, none⟩) m vc) xs ∧ W7.heap[w.heap.size]? = some (.cells #[.slice (some ⟨g, 0, none⟩) m vc] 24 (0, 0)) ∧ W7.heap[Bx]? = some (.cells #[.int .i64 x0, .int .i64 x1, .int .i64 x2, .int .i64 y3] 52 (0, 0)) from ⟨H6.out.1.below hb7, H6.out.2.1.below hb7 (Nat.le_refl _), blk_below H6.out.2.2.1 hb7 (Array.getElem?_eq_some_iff.1 H6.out.2.2.1).1, blk_below H6.out.2.2.2.1 hb7 (Array.getElem?_eq_some_iff.1 H6.out.2.2.2.1).1⟩)
      have HK := Lib.hid (show _ ∧ _ from ⟨H6.out.2.2.2.2.1.trans (keeps_below hb7), kpO_t H6.out.2.2.2.2.2 (KpO.below _ hb7)⟩)
      have hsz7 := hb7.size
      clear hb7 hlt hpd
      gi_upto_region 13 with fail
      replace hps := hps.out
      have r0 := blk_cell H8.out.2.2.2 0; have r1 := blk_cell H8.out.2.2.2 1; have r2 := blk_cell H8.out.2.2.2 2; have r3 := blk_cell H8.out.2.2.2 3
      have b0 : W7.cell? ⟨w.heap.size, 0, none⟩ = _ := blk_cell H8.out.2.2.1 0
      simp at r0 r1 r2 r3 b0
      gi_wp2_with (gi_at_builtin; refine wpListIn_append_D rfl _ _ rfl (X + 3) (.slice (some ⟨g, 0, none⟩) m vc) xs rfl (H8.out.2.1.alloc _) W7.heap.size (x0, x1, x2, y3) rfl 52 (0, 0) (blk_new _ _) (by rw [HF.out.2.2.2]; omega) (by first | omega | (simp; omega)) ?_; intro v2 w2 hO2 hB2 hG2; obtain ⟨ga2, gm2, gc2, rfl⟩ : ∃ a m c, v2 = .slice a m c := (by obtain ⟨a', _, c', h', _⟩ := hO2.s; exact ⟨a', _, c', h'⟩); have c9 : w2.cell? ⟨w.heap.size, 0, none⟩ = _ := blk_cell (blk_below (blk_alloc H8.out.2.2.1 _) hB2 (by omega)) 0; have f9 : w2.frozen? ⟨w.heap.size, 0, none⟩ = false := blk_free (blk_below (blk_alloc H8.out.2.2.1 _) hB2 (by omega)) 0; have HP2 := Lib.hid (H8.out.1.push H8.out.2.2.1 H8.out.2.1 hO2 hG2); clear hO2 hB2 hG2)
      exact ⟨(HK.out.1.trans HP2.out.1).from _, kpO_t HK.out.2 HP2.out.2.1, by dsimp only; rw [N.out, hps]; exact HP2.out.2.2⟩
  case done =>
    rintro D ys W hD hys hI hDf
    rw [hys] at hI
    obtain ⟨v, hv, hO⟩ := hI.s0
    obtain ⟨va, vb, vc, rfl, -, -, -, -, -⟩ := hO.s
    have hDl := (Array.getElem?_eq_some_iff.1 hDf).1
    have hsW := hI.bb
    have hMk : Marks w.heap.size W.heap.size [D] W := (⟨List.nodup_nil, fun D hD => by cases hD⟩ : Marks w.heap.size D [] W).cons (Nat.le_refl _) (by omega) hDl hDf
    rw [HFI.out] at hO hv
    obtain ⟨xs, hxs⟩ : ∃ xs, xs = layF (runsL l (st - i - o) k) := ⟨_, rfl⟩
    rw [← hxs] at hO hv
    have HXS := Lib.hid hxs
    clear hxs
    have b0 : W.cell? ⟨w.heap.size, 0, none⟩ = _ := blk_cell hv 0
    have f0 : W.frozen? ⟨w.heap.size, 0, none⟩ = false := blk_free hv 0
    simp at b0
    have HI := Lib.hid (show _ ∧ _ ∧ _ ∧ _ from ⟨hI.bel, hv, hO, hMk⟩)
    clear hI hv hO hMk hDf HR
    rename_i K hK
    refine hK _ _ ?_
    gi_wp2
    have hE := one_setCell (u := .slice va xs.length vc) HI.out.2.1
    have hBe := HI.out.1.setCell (p := ⟨w.heap.size, 0, none⟩) (Nat.le_refl _) (.slice va xs.length vc)
    have hOe := HI.out.2.2.1.setFar (p := w.heap.size) (i := 0) (u := .slice va xs.length vc) (fun e => by have := (HI.out.2.2.1.own _ e.symm).1; omega)
    have hMe := HI.out.2.2.2.keeps (KeepsOthers.setCell W ⟨w.heap.size, 0, none⟩ (.slice va xs.length vc))
    generalize W.setCell ⟨w.heap.size, 0, none⟩ (.slice va xs.length vc) = WF at *
    refine leaves_marks [D] WF hMe (fun W' hb hk => ?_)
    have e0' := blk_cell (hk _ _ hE rfl) 0
    simp at e0'
    exact ⟨.tuple #[.slice va xs.length vc, .int .i64 0], by simp [results, Try.results11, go_sem, e0'], _, rfl, by rw [← HXS.out]; exact (hOe.cells hk).mono (show w.heap.size ≤ X + 3 by omega), hBe.trans hb⟩
  case stop =>
    rintro D cc pre W hD _ hF _
    exact hF.elim
theorem lay_any (a : Option Addr) (n cap b off : Nat) (l : List Ht) (st k i o : Int) (w : World) (hM : Hs w a n b off l) (hcap : n ≤ cap) (hcm : cap ≤ 9223372036854775807) :
    Calls Try.prog 11 #[.slice a n cap, .int .i64 st, .int .i64 k, .int .i64 i, .int .i64 o] w fun e w' => ∃ v, e = .returned (.tuple #[v, .int .i64 (layS l st k i o).1]) ∧ DsO w' w.heap.size v (layS l st k i o).2 ∧ Below w.heap.size w w' := by
  by_cases h : ArgOk l st k i o
  · rw [layS_yes h]
    exact callsIn_wide.1 (lay_in a n cap b off l st k i o w hM hcap hcm h)
  · rw [layS_no h]
    exact (lay_no a n cap b off l st k i o w hM (by omega) h).mono fun e w' h => ⟨_, h.1, DsO.nil _ _, h.2⟩
end Go.Proofs.Ythnhnmmabjmjgaa
