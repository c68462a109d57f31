/- What the gestures that reach make of values, one after the other: the mathematics; Clone; the iterator's contract (layer 12). -/
import Derived.Test.YtmblkmllamccnaaGesIter
import Derived.Test.YtmblkmllamccnaaOwnSt
import Derived.Lib.SliceRun
namespace Go.Proofs.Ytmblkmllamccnaa
open Go.RowKit Go.Shelf

/-- Each value behind some gestures. -/
def stG (l : List Gt) (base : List Int) (F : Int) (N : Nat) (is : List Nat) : List Int := (List.range N).map fun (j : Nat) => is.foldl (fun v i => made v (nthG l i) (F + (j : Int))) (base.getD j 0)
theorem stG_len (l : List Gt) (base : List Int) (F : Int) (N : Nat) (is : List Nat) : (stG l base F N is).length = N := by simp [stG]
theorem stG_get {l : List Gt} {base : List Int} {F : Int} {N : Nat} {is : List Nat} {j : Nat} (h : j < N) : (stG l base F N is).getD j 0 = is.foldl (fun v i => made v (nthG l i) (F + (j : Int))) (base.getD j 0) := by
  simp [stG, List.getD_eq_getElem?_getD, h]
theorem stG_nil {l : List Gt} {base : List Int} {F : Int} : stG l base F base.length [] = base := by
  apply List.ext_getElem?
  intro j
  by_cases h : j < base.length <;> simp [stG, List.getD_eq_getElem?_getD, h]
theorem getD_map_range {f : Nat → Int} {N j : Nat} (h : j < N) : ((List.range N).map f).getD j 0 = f j := by simp [List.getD_eq_getElem?_getD, h]
/-- A gesture's values set, from p on, q of them. -/
def updG (L : List Int) (g : Gt) (F : Int) (N p q : Nat) : List Int := (List.range N).map fun (j : Nat) => if p ≤ j ∧ j < p + q then made (L.getD j 0) g (F + (j : Int)) else L.getD j 0
theorem updG_len (L : List Int) (g : Gt) (F : Int) (N p q : Nat) : (updG L g F N p q).length = N := by simp [updG]
theorem updG_zero {L : List Int} {g : Gt} {F : Int} {p : Nat} : updG L g F L.length p 0 = L := by
  apply List.ext_getElem?
  intro j
  by_cases h : j < L.length
  · simp [updG, h, List.getD_eq_getElem?_getD]
    intro h1 h2
    omega
  · simp [updG, h]
theorem updG_at {L : List Int} {g : Gt} {F : Int} {N p q : Nat} (h : p + q < N) : (updG L g F N p q).getD (p + q) 0 = L.getD (p + q) 0 := by
  unfold updG
  rw [getD_map_range h, if_neg (by omega)]
theorem updG_succ {L : List Int} {g : Gt} {F : Int} {N p q : Nat} (h : p + q < N) : (updG L g F N p q).set (p + q) (made (L.getD (p + q) 0) g (F + ((p + q : Nat) : Int))) = updG L g F N p (q + 1) := by
  apply List.ext_getElem?
  intro j
  by_cases hj : j < N
  · rw [List.getElem?_set]
    by_cases e : p + q = j
    · subst e
      rw [if_pos rfl, if_pos (by rw [updG_len]; exact h)]
      simp [updG, hj]
    · rw [if_neg e]
      simp only [updG, List.getElem?_map, List.getElem?_range hj, Option.map_some, Option.some.injEq]
      by_cases h1 : p ≤ j ∧ j < p + q
      · rw [if_pos h1, if_pos (by omega)]
      · rw [if_neg h1, if_neg (by omega)]
  · rw [List.getElem?_eq_none (by rw [List.length_set, updG_len]; omega), List.getElem?_eq_none (by rw [updG_len]; omega)]
theorem updG_all {l : List Gt} {base : List Int} {F : Int} {N p q i : Nat} {is : List Nat} (h : ∀ j : Nat, j < N → (nthG l i).f ≤ F + (j : Int) ∧ F + (j : Int) < (nthG l i).u → p ≤ j ∧ j < p + q) :
    updG (stG l base F N is) (nthG l i) F N p q = stG l base F N (is ++ [i]) := by
  unfold updG
  conv => rhs; unfold stG
  refine List.map_congr_left fun j hj => ?_
  have hj := List.mem_range.1 hj
  rw [stG_get hj, List.foldl_append]
  by_cases h1 : p ≤ j ∧ j < p + q
  · rw [if_pos h1]; rfl
  · rw [if_neg h1]
    exact (if_neg fun hh => h1 (h j hj hh)).symm
theorem made_no {v p : Int} {g : Gt} (h : ¬ (g.f ≤ p ∧ p < g.u)) : made v g p = v := if_neg h
/-- Those that don't reach change nothing. -/
theorem fold_filter {l : List Gt} {F : Int} {N : Nat} {j : Nat} (hj : j < N) : ∀ (is : List Nat) (v : Int), (is.filter (rch l F N)).foldl (fun v i => made v (nthG l i) (F + (j : Int))) v = is.foldl (fun v i => made v (nthG l i) (F + (j : Int))) v := by
  intro is
  induction is with
  | nil => intro v; rfl
  | cons i is ih =>
    intro v
    by_cases h : rch l F N i = true
    · rw [List.filter_cons_of_pos h, List.foldl_cons, List.foldl_cons, ih]
    · rw [List.filter_cons_of_neg h, List.foldl_cons, ih]
      have : made v (nthG l i) (F + (j : Int)) = v := made_no fun hh => h (by unfold rch; simp; omega)
      rw [this]
theorem fold_range {l : List Gt} {p : Int} : ∀ (n : Nat) (v : Int), n ≤ l.length → (List.range n).foldl (fun v i => made v (nthG l i) p) v = allG v (l.take n) p := by
  intro n
  induction n with
  | zero => intro v _; rfl
  | succ n ih =>
    intro v h
    rw [List.range_succ, List.foldl_append, ih v (by omega), takeG_succ (by omega), allG_snoc]
    rfl
theorem stG_done {l : List Gt} {base : List Int} {F : Int} {N n : Nat} (hl : l.length = n) {is : List Nat} (h : is = (List.range n).filter (rch l F N)) : stG l base F N is = gvals l base F N := by
  subst h
  unfold stG gvals
  refine List.map_congr_left fun j hj => ?_
  rw [fold_filter (List.mem_range.1 hj), fold_range n _ (by omega), ← hl, List.take_length]
theorem fold_in {l : List Gt} (h : Ges l) {p : Int} : ∀ (is : List Nat) (v : Int), (∀ i ∈ is, i < l.length) → -9223372036854775808 ≤ v → v ≤ 9223372036854775807 → -9223372036854775808 ≤ is.foldl (fun v i => made v (nthG l i) p) v ∧ is.foldl (fun v i => made v (nthG l i) p) v ≤ 9223372036854775807 := by
  intro is
  induction is with
  | nil => intro v _ h1 h2; exact ⟨h1, h2⟩
  | cons i is ih =>
    intro v hi h1 h2
    have hm := made_in (p := p) (h.2 i (hi i (by simp))) h1 h2
    exact ih _ (fun x hx => hi x (by simp [hx])) hm.1 hm.2
def ixs {l : List Gt} {F N : Int} {n : Nat} (pre : List (Rx l F N n)) : List Nat := pre.map (·.1)
theorem ixs_snoc {l : List Gt} {F N : Int} {n : Nat} (pre : List (Rx l F N n)) (x : Rx l F N n) : ixs (pre ++ [x]) = ixs pre ++ [x.1] := by simp [ixs]
theorem ixs_lt {l : List Gt} {F N : Int} {n : Nat} (pre : List (Rx l F N n)) : ∀ i ∈ ixs pre, i < n := by
  intro i hi
  obtain ⟨x, _, rfl⟩ := List.mem_map.1 hi
  exact x.2.1

theorem reaching_stops (m : Nat) (hm : 3 ≤ m) (Bf Bl Bn b off n cap : Nat) (a : Option Addr) (l : List Gt) (F N : Int) (own : Nat → Prop) (hok : Ges l)
    (hF1 : -9223372036854775808 ≤ F) (hF2 : F ≤ 9223372036854775807) (hN1 : 0 ≤ N) (hN2 : N ≤ 65536) (w : World)
    (o1 : ¬ own Bf) (o2 : ¬ own Bl) (o3 : ¬ own Bn) (ob : 0 < n → ¬ own b) (hoW : ∀ k, w.heap.size ≤ k → ¬ own k)
    (hbw : 0 < n → ∃ c tb fr, w.heap[b]? = some (.cells c tb fr)) (hBf : w.heap[Bf]? = some (.cells #[.int .i64 F] 3 (0, 0))) (hBl : w.heap[Bl]? = some (.cells #[.slice a n cap] 22 (0, 0))) (hBn : w.heap[Bn]? = some (.cells #[.int .i64 N] 3 (0, 0))) (hM : Gs w a n b off l) :
    SeqStopsK Fence.wide m Try.prog 32 #[.pointer (some ⟨Bf, 0, none⟩), .pointer (some ⟨Bl, 0, none⟩), .pointer (some ⟨Bn, 0, none⟩)] (fun x : Rx l F N n => encR l F N x) (KpEx own) (fun ys => firstR l F N ys n) (fun pre => ∃ k, k ≤ n ∧ firstR l F N pre k) n w := fun lp J Jx W hW hJ hJx hY h0 => by
  have k := fun {q : Nat} {o : Obj} (h : w.heap[q]? = some o) => blk_below h hW (Array.getElem?_eq_some_iff.1 h).1
  exact reaching1_in m hm lp Bf Bl Bn b off n cap a l F N own hok hF1 hF2 hN1 hN2 o1 o2 o3 ob J Jx W (fun q hq => hoW q (Nat.le_trans hW.size hq)) hJ hY (fun h => by
    obtain ⟨c, tb, fr, h1⟩ := hbw h
    exact ⟨c, tb, fr, k h1⟩) (k hBf) (k hBl) (k hBn) (hM.grown hW) h0

set_option maxHeartbeats 2000000 in
theorem clone_any (a : Option Addr) (b off n cap : Nat) (l : List Int) (w : World) (h : Row w a b off n l) (hn : n ≤ 1000000) (hnc : a = none → cap = 0) :
    Calls Try.prog 25 #[.slice a n cap] w fun e w' => (∃ v, e = .returned v ∧ Ints w' w.heap.size v l) ∧ Below w.heap.size w w' := by
  have HK := Lib.hid h
  clear h
  have qT : ∀ (w : World) (a : Option Addr) (n c n' c' : Nat), (binOp .eql 30 (.slice a n c) (.slice none n' c')).run Try.prog w = .ok (.bool a.isNone) w := fun w a n c n' c' => Lib.run_eql_slice_nil w _ _ a n c n' c' Try.underlying30
  go_enter Try.func25, Try.ntmps25
  cases a with
  | none =>
    obtain rfl : cap = 0 := hnc rfl
    obtain rfl : n = 0 := by
      rcases Nat.eq_zero_or_pos n with h | h
      · exact h
      · have := (HK.out.adr h); cases this
    obtain rfl : l = [] := List.eq_nil_of_length_eq_zero HK.out.len
    go_wp2
    exact bodyPost_ret (by simp [results, Try.results25, go_sem]) rfl ⟨⟨_, rfl, Ints.nil _ _⟩, Below.refl _ _⟩
  | some ad =>
    go_wp2_with (at_builtin; refine wpList_append_row rfl _ _ rfl w.heap.size _ [] rfl (Ints.empty w) _ b off _ _ l rfl (HK.out.below (by go_grown) (Nat.le_refl _)) (fun h => by cases h) (by simp; omega) (by simp) ?_; intro v1 w1 hO hB hG; clear hG; rw [List.nil_append] at hO; have HO := Lib.hid (show _ ∧ _ from ⟨hO, ((Below.refl w.heap.size w).alloc (Nat.le_refl _) _).trans hB⟩); clear hO hB)
    exact bodyPost_ret (by simp [results, Try.results25, go_sem]) rfl ⟨⟨_, rfl, HO.out.1⟩, HO.out.2⟩
end Go.Proofs.Ytmblkmllamccnaa
