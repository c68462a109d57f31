/- The program's fade (layer 27). -/
import Derived.Test.YtagikfiiljdpnaaFadChg
import Derived.Test.YtagikfiiljdpnaaOwnX
import Derived.Laws.EntriesVeiled
namespace Go.Proofs.Ytagikfiiljdpnaa
open Go.RowKit Go.Shelf

attribute [local go_sem] Oper.semAt_some

/-- What a fade keeps in memory. -/
structure FdR (w W : World) (atv : Value) (X n cv : Nat) (av : Option Addr) (xs : List Int) : Prop where
  s0 : W.heap[w.heap.size]? = some (.cells #[atv] 35 (0, 0))
  s1 : W.heap[X]? = some (.cells #[.slice av n cv] 27 (0, 0))
  s2 : W.heap[X + 1]? = some (.cells #[.func (.func 40) #[] #[.pointer (some ⟨X, 0, none⟩)]] 40 (0, 0))
  own : Ints W (w.heap.size + 2) (.slice av n cv) xs
theorem Ints.grownNC {w w' : World} {B : Nat} {v : Value} {l : List Int} {row : Option Nat} (h : Ints w B v l) (hg : w.grownBy w' row) (hr : ∀ r, row = some r → ∃ o : Obj, w.heap[r]? = some o ∧ o.isCells = false) : Ints w' B v l := by
  refine ⟨h.1, ?_⟩
  rcases h.2 with h0 | ⟨g, cap, cur, h1, h2, h3, h4⟩
  · exact .inl h0
  · exact .inr ⟨g, cap, cur, h1, h2, blk_kept h3 hg hr, h4⟩
theorem FdR.grown {w A B : World} {atv : Value} {X n cv : Nat} {av : Option Addr} {xs : List Int} {r : Option Nat} (h : FdR w A atv X n cv av xs) (hg : A.grownBy B r) (hr : ∀ q, r = some q → ∃ o : Obj, A.heap[q]? = some o ∧ o.isCells = false) : FdR w B atv X n cv av xs :=
  ⟨blk_kept h.s0 hg hr, blk_kept h.s1 hg hr, blk_kept h.s2 hg hr, h.own.grownNC hg hr⟩
theorem others_below {W W' : World} (h : Below W.heap.size W W') : KeepsOthers W W' := ⟨h.size, fun k _ hk _ => (h.block k (Array.getElem?_eq_some_iff.1 hk).1).trans hk⟩
theorem others_set {W : World} {a : Addr} {v : Value} : KeepsOthers W (W.setCell a v).drew := (KeepsOthers.setCell _ _ _).trans (others_below (Below.refl _ _).drew)


/-- Steps of a fade, in any order. -/
def fdX (l : List Int) (n : Nat) (p : Nat → Nat) (is : List Nat) : List Int := is.foldl (fun L i => L.set (p i) (gmul (L.getD (p i) 0) (gainV i n))) l
theorem fdX_len (l : List Int) (n : Nat) (p : Nat → Nat) (is : List Nat) : (fdX l n p is).length = l.length := by
  unfold fdX
  induction is generalizing l with
  | nil => rfl
  | cons i is ih => rw [List.foldl_cons, ih, List.length_set]
theorem fdX_snoc (l : List Int) (n : Nat) (p : Nat → Nat) (is : List Nat) (i : Nat) : fdX l n p (is ++ [i]) = (fdX l n p is).set (p i) (gmul ((fdX l n p is).getD (p i) 0) (gainV i n)) := by
  unfold fdX
  rw [List.foldl_append]
  rfl
theorem fdL_get (l : List Int) (n : Nat) (p : Nat → Nat) (k q : Nat) (h : ∀ j, j < k → p j ≠ q) : (fdL l n p k).getD q 0 = l.getD q 0 := by
  induction k with
  | zero => rfl
  | succ k ih =>
    have e : (fdL l n p (k + 1)).getD q 0 = (fdL l n p k).getD q 0 := by
      simp only [fdL, List.getD_eq_getElem?_getD]
      rw [List.getElem?_set_ne (h k (by omega))]
    rw [e]
    exact ih fun j hj => h j (by omega)
theorem fdX_range (l : List Int) (n : Nat) (p : Nat → Nat) (k : Nat) (h : ∀ i j, i < j → j < k → p i ≠ p j) : fdX l n p (List.range k) = fdL l n p k := by
  induction k with
  | zero => rfl
  | succ k ih =>
    rw [List.range_succ, fdX_snoc, ih fun i j hi hj => h i j hi (by omega), fdL_get l n p k (p k) fun j hj => h j k hj (by omega)]
    rfl

def ixs {M : Nat} (pre : List (Ix M)) : List Nat := pre.map (·.1)
theorem ixs_snoc {M : Nat} (pre : List (Ix M)) (x : Ix M) : ixs (pre ++ [x]) = ixs pre ++ [x.1] := by simp [ixs]
theorem FdR.step {w W : World} {atv : Value} {X n cv gb : Nat} {xs : List Int} (h : FdR w W atv X n cv (some ⟨gb, 0, none⟩) xs) (hl : xs.length = n) (h1 : w.heap.size + 2 ≤ gb) (h2 : gb < X) (hB : Below w.heap.size w W) (i : Nat) (y : Int) :
    KeepsOthers W (W.drew.setCell ⟨gb, i, none⟩ (.int .i64 y)).drew ∧ KpEx (fun j => ¬ (j = X + 1 + 1)) W (W.drew.setCell ⟨gb, i, none⟩ (.int .i64 y)).drew ∧
      FdR w (W.drew.setCell ⟨gb, i, none⟩ (.int .i64 y)).drew atv X n cv (some ⟨gb, 0, none⟩) (xs.set i y) ∧ Below w.heap.size w (W.drew.setCell ⟨gb, i, none⟩ (.int .i64 y)).drew := by
  have far : ∀ q ob, q ≠ gb → W.heap[q]? = some ob → (W.drew.setCell ⟨gb, i, none⟩ (.int .i64 y)).drew.heap[q]? = some ob := fun q ob hq hw => (Below.heap_setCell W.drew ⟨gb, i, none⟩ (.int .i64 y) q hq).trans hw
  refine ⟨(others_below (Below.refl _ _).drew).trans others_set, ⟨?_, fun k ob hk _ hn => ?_⟩, ⟨far _ _ (by omega) h.s0, far _ _ (by omega) h.s1, far _ _ (by omega) h.s2, (Ints.stored hl h.own.drew i y).drew⟩, (hB.drew.setCell (p := ⟨gb, i, none⟩) (by show w.heap.size ≤ gb; omega) _).drew⟩
  · show W.heap.size ≤ (W.drew.setCell ⟨gb, i, none⟩ (.int .i64 y)).heap.size
    rw [World.size_setCell]
    exact Nat.le_refl _
  · have : k = X + 1 + 1 := Decidable.not_not.1 hn
    exact far _ _ (by omega) hk

set_option maxRecDepth 100000 in
set_option maxHeartbeats 8000000 in
theorem fadeI_in (a : Option Addr) (b off n cap M : Nat) (l : List Int) (p : Nat → Nat) (w : World) (hR : Row w a b off n l) (hn : n ≤ 1000000) (hM : M ≤ n) (hp : ∀ k, k < M → p k < n) (hinj : ∀ i j, i < j → j < M → p i ≠ p j)
    (hAt : ∀ (k : Nat) (W : World), k < M → Below w.heap.size w W → Calls Try.prog 28 #[.int .i64 k] W fun e w' => e = .returned (.int .i64 (p k : Nat)) ∧ w' = W) :
    CallsIn Fence.wide 5 Try.prog 27 #[.slice a n cap, .int .i64 M, .func (.func 28) #[] #[]] w fun e w' => ∃ v, e = .returned v ∧ Ints w' w.heap.size v (fdL l M p M) ∧ Below w.heap.size w w' := by
  have hro : Fence.wide.round = none := rfl
  have HLN := Lib.hid hR.len
  have HR := Lib.hid hR; clear hR
  refine callsIn_of_wp_marks Try.func27 rfl trivial ?_ hro
  simp only [Try.ntmps27, List.size_toArray, List.length_cons, List.length_nil, Nat.reduceAdd, Nat.reduceSub, Array.replicate_succ, Array.replicate_zero, List.push_toArray, List.append_toArray, List.nil_append, List.cons_append]
  refine wpIn_wide.2 ?_
  go_wp2_with (first
    | (go_at_call 35; refine (concat_one (w.heap.size + 1) a b off n cap l _ (by have := blk_new (w.alloc (.cells #[.func (.func 28) #[] #[]] 35)) (.cells #[.slice a n cap] 27); rwa [World.size_alloc] at this) (HR.out.below (((Below.refl _ _).alloc (Nat.le_refl _) _).alloc (by simp) _) (Nat.le_refl _)) hn).mono ?_; rintro e w1 ⟨v, rfl, hI1, hB1⟩; obtain ⟨av, cv, rfl⟩ := hI1.isSlice; rw [HLN.out] at hI1 ⊢)
    | (go_at_call 34; refine (gains_any _ _).mono ?_; rintro e w' ⟨rfl, rfl⟩))
  have hsz := hB1.size
  simp only [World.size_alloc] at hsz hI1 hB1
  obtain ⟨W0, hW0⟩ : ∃ W0, W0 = (((w1.alloc (.cells #[.slice av n cv] 27)).alloc (.cells #[.func (.func 40) #[] #[.pointer (some ⟨w1.heap.size, 0, none⟩)]] 40)).alloc (.cells #[.int .i64 M] 3)) := ⟨_, rfl⟩
  have hz0 : W0.heap.size = w1.heap.size + 1 + 1 + 1 := by rw [hW0]; simp
  have n1 := blk_new w1 (.cells #[.slice av n cv] 27)
  have n2 := blk_new (w1.alloc (.cells #[.slice av n cv] 27)) (.cells #[.func (.func 40) #[] #[.pointer (some ⟨w1.heap.size, 0, none⟩)]] 40)
  have n3 := blk_new ((w1.alloc (.cells #[.slice av n cv] 27)).alloc (.cells #[.func (.func 40) #[] #[.pointer (some ⟨w1.heap.size, 0, none⟩)]] 40)) (.cells #[.int .i64 M] 3)
  have n0 := blk_new w (.cells #[.func (.func 28) #[] #[]] 35)
  simp only [World.size_alloc] at n1 n2 n3
  have hB0 : Below w.heap.size w W0 := by
    rw [hW0]
    exact (((((((Below.refl _ _).alloc (Nat.le_refl _) _).alloc (by simp) _)).trans (hB1.mono (by omega))).alloc (by omega) _).alloc (by simp; omega) _).alloc (by simp; omega) _
  have hst : FdR w W0 (.func (.func 28) #[] #[]) w1.heap.size n cv av l := by
    rw [hW0]
    refine ⟨blk_alloc (blk_alloc (blk_alloc (blk_below (blk_alloc n0 _) hB1 (by omega)) _) _) _, blk_alloc (blk_alloc n1 _) _, blk_alloc n2 _, ((hI1.alloc _).alloc _).alloc _⟩
  have hB3 : W0.heap[w1.heap.size + 1 + 1]? = some (.cells #[.int .i64 M] 3 (0, 0)) := by rw [hW0]; exact n3
  have hloc : ∀ g, (Value.slice av n cv).ownBlock = some g → g < w1.heap.size := fun g hg => (World.ownsRow.lt hI1 g hg).2
  rw [← hW0]
  have HF := Lib.hid (show _ ∧ _ ∧ _ from ⟨hst, hB0, hloc⟩)
  clear hst hB0 hloc hW0 n0 n1 n2 n3 hB1 hI1
  generalize w1.heap.size = X at *
  refine wpIn_wide.1 (?_ : Code.wpIn Fence.wide 5 _ _ _ _ _)
  refine wpIn_rangeFunc_ownH rfl (by omega) (gf := 44) (lb := #[.pointer (some ⟨X + 1 + 1, 0, none⟩)]) rfl trivial (enters_of Try.func44 (by kernel_rfl) rfl)
    (gains_stops _ (by omega) (X + 1 + 1) M (by omega) W0 (fun j => ¬ (j = X + 1 + 1)) (fun g => g rfl) hB3)
    kpEx_t kpEx_b (Below.refl _ _) (fun _ => rfl)
    (fun pre W => FdR w W (.func (.func 28) #[] #[]) X n cv av (fdX l M p (ixs pre)) ∧ Below w.heap.size w W)
    (fun c pre W => False ∧ Below w.heap.size w W)
    (OwnFrom.and (Own.from (fun s A B row hs hg hr => hs.grown hg hr) _) (ownFrom_below (Nat.le_refl _) (by omega)))
    (fun c => OwnFrom.and (Own.from (fun s A B row hs hg hr => hs.elim) _) (ownFrom_below (Nat.le_refl _) (by omega)))
    ⟨HF.out.1, HF.out.2.1⟩
    (fun x a' W => a' = { tmps := #[.slice a n cap, .int .i64 M, .func (.func 28) #[] #[], undef, undef, .pointer (some ⟨w.heap.size, 0, none⟩), .slice none 0 0, .pointer (some ⟨X, 0, none⟩), .pointer (some ⟨X + 1, 0, none⟩), .int .i64 x.1, .int .i64 (gainV x.1 M), .slice a n cap, .slice (some ⟨w.heap.size + 1, 0, none⟩) 1 1, .slice av n cv, .func (.func 40) #[] #[.pointer (some ⟨X, 0, none⟩)], .int .i64 M, .func (.func 44) #[] #[.pointer (some ⟨X + 1 + 1, 0, none⟩)], .int .i64 x.1, .int .i64 (gainV x.1 M), undef, undef, undef, undef, undef, undef, undef], defers := [] })
    (fun x a' => Own.from (fun s A B row hs hg hr => hs) _) ?assign ?body ?done ?stop
  case assign =>
    rintro lp pre x W K ⟨hI, hB⟩ hK
    simp only [encG]
    gi_wp2
    refine hK _ _ (KeepsFrom.refl _ _) (KpEx.refl _ _) ⟨hI, hB⟩ ?_
    rfl
  case body =>
    rintro lp pre x a' W _ hpre ⟨hI, hB⟩ rfl hpl
    obtain ⟨k, hk⟩ := x
    dsimp only at *
    have hfl := (fdX_len l M p (ixs pre)).trans HLN.out
    have hpn := hp k hk
    obtain ⟨gb, cp, hveq, hgb⟩ := hI.own.inBlock hfl (by omega)
    have hlo := HF.out.2.2 gb (by rw [hveq]; rfl)
    simp only [Value.slice.injEq, true_and] at hveq
    obtain ⟨rfl, rfl⟩ := hveq
    have dn := hI.own.cellAt hfl (p k) hpn
    have df := hI.own.freeAt hfl (p k)
    have c1 := blk_cell hI.s0 0
    have c2 := blk_cell hI.s2 0
    simp at c1 c2
    have hI0 := hI
    have hB0 := hB
    clear hI hB
    gi_wp2
    refine wpIn_round_from 0 3 (fun w' => w'.cell? ⟨w.heap.size, 0, none⟩ = some (.func (.func 28) #[] #[]) ∧ w'.cell? ⟨X + 1, 0, none⟩ = some (.func (.func 40) #[] #[.pointer (some ⟨X, 0, none⟩)])) (by kernel_rfl) (by kernel_rfl) (by rintro ⟨a, w, h⟩; exact h) (fun _ _ _ _ _ h => h) (by kernel_rfl) (by decide) (by kernel_rfl) ⟨c1, c2⟩ ?_
    simp only [List.drop_zero, List.take_succ_cons, List.take_zero]
    refine wpHeld_cons (.func (.func 40) #[] #[.pointer (some ⟨X, 0, none⟩)]) (by kernel_rfl) ?_ ?_
    · rintro w' ⟨s0, s1⟩
      try go_simp
    refine wpHeld_cons (.func (.func 28) #[] #[]) (by kernel_rfl) ?_ ?_
    · rintro w' ⟨s0, s1⟩
      try go_simp
    refine wpHeld_cons (.int .i64 k) (by kernel_rfl) ?_ ?_
    · rintro w' ⟨s0, s1⟩
      try go_simp
    refine wpHeld_nil ?_
    go_simp
    obtain ⟨Y, hY⟩ : ∃ Y, Y = (fdX l M p (ixs pre)).getD (p k) 0 := ⟨_, rfl⟩
    rw [← hY] at dn
    have HST := Lib.hid (hI0.step hfl (by omega) hlo hB0 (p k) (gmul Y (gainV k M)))
    have HX := Lib.hid hI0.s1
    have hk2 : p k < n := hpn
    have hSn : fdX l M p (ixs (pre ++ [(⟨k, hk⟩ : Ix M)])) = (fdX l M p (ixs pre)).set (p k) (gmul Y (gainV k M)) := by
      rw [ixs_snoc, fdX_snoc, hY]
    have HSN := Lib.hid hSn
    clear hSn hY
    refine wpAnyH_two (i := 3) (j := 4) (by kernel_rfl) rfl rfl (by kernel_rfl) (by kernel_rfl) (fun K' hK' => ?_) (fun K' hK' => ?_)
    · go_simp
      refine (hAt k W.drew hk hB0.drew).mono ?_
      rintro e W3 ⟨rfl, rfl⟩
      refine hK' _ _ ⟨c1, c2⟩ ?_
      clear hK' K'
      refine wpAnyH_one (i := 4) (by kernel_rfl) rfl (by kernel_rfl) (fun K' hK' => ?_)
      go_simp
      refine hK' _ _ ⟨c1, c2⟩ ?_
      clear hK' K'
      refine wpAnyH_one (i := 5) (by kernel_rfl) rfl (by kernel_rfl) (fun K' hK' => ?_)
      go_simp
      refine (change_any X gb n cv (p k) Y (gainV k M) W.drew HX.out hk2 dn df).mono ?_
      rintro e W3 ⟨⟨v, rfl⟩, rfl⟩
      refine hK' _ _ ⟨blk_cell HST.out.2.2.1.s0 0, blk_cell HST.out.2.2.1.s2 0⟩ ?_
      clear hK' K'
      refine wpAnyH_done (by kernel_rfl) ?_ _
      gi_wp2
      refine ⟨HST.out.1.from _, HST.out.2.1, ?_, HST.out.2.2.2⟩
      rw [HSN.out]
      exact HST.out.2.2.1
    · go_simp
      refine hK' _ _ ⟨c1, c2⟩ ?_
      clear hK' K'
      refine wpAnyH_one (i := 3) (by kernel_rfl) rfl (by kernel_rfl) (fun K' hK' => ?_)
      go_simp
      refine (hAt k W.drew hk hB0.drew).mono ?_
      rintro e W3 ⟨rfl, rfl⟩
      refine hK' _ _ ⟨c1, c2⟩ ?_
      clear hK' K'
      refine wpAnyH_one (i := 5) (by kernel_rfl) rfl (by kernel_rfl) (fun K' hK' => ?_)
      go_simp
      refine (change_any X gb n cv (p k) Y (gainV k M) W.drew HX.out hk2 dn df).mono ?_
      rintro e W3 ⟨⟨v, rfl⟩, rfl⟩
      refine hK' _ _ ⟨blk_cell HST.out.2.2.1.s0 0, blk_cell HST.out.2.2.1.s2 0⟩ ?_
      clear hK' K'
      refine wpAnyH_done (by kernel_rfl) ?_ _
      gi_wp2
      refine ⟨HST.out.1.from _, HST.out.2.1, ?_, HST.out.2.2.2⟩
      rw [HSN.out]
      exact HST.out.2.2.1
  case done =>
    rintro D xs W hD hxs ⟨hI, hB⟩ hDf
    rw [show ixs xs = List.range M from hxs, fdX_range l M p M hinj] at hI
    have c6 := blk_cell hI.s1 0
    simp at c6
    have HI := Lib.hid (show _ ∧ _ from ⟨hI.own, hB⟩)
    clear hI hB
    rename_i K hK
    refine hK _ _ ?_
    go_wp2_with fail
    have hI2 := (HI.out.1.grownNC (grownBy_putObj' _ D (.deferred none)) (fun r e => by cases e; exact ⟨_, hDf, rfl⟩)).mono (show w.heap.size ≤ w.heap.size + 2 by omega)
    have hB2 := HI.out.2.trans (belowK_b (w := w) (Nat.le_refl _) _ D _ (.deferred none) (by omega) hDf rfl rfl)
    have HZ := Lib.hid (show _ ∧ _ from ⟨hI2, hB2⟩)
    clear hI2 hB2
    refine ⟨by simp, .inl ⟨_, _, rfl, run_takeDeferred hDf, ?_⟩⟩
    exact ⟨.slice av n cv, by simp [results, Try.results27, go_sem], _, rfl, HZ.out.1, HZ.out.2⟩
  case stop =>
    rintro D cc pre W hD _ ⟨hF, _⟩ _
    exact hF.elim
set_option maxRecDepth 100000 in
set_option maxHeartbeats 8000000 in
theorem fadeO_in (D : Nat) (a : Option Addr) (b off n cap M : Nat) (l : List Int) (p : Nat → Nat) (w : World) (hR : Row w a b off n l) (hn : n ≤ 1000000) (hM : M ≤ n) (hp : ∀ k, k < M → p k < n) (hinj : ∀ i j, i < j → j < M → p i ≠ p j)
    (hAt : ∀ (k : Nat) (W : World), k < M → Below w.heap.size w W → Calls Try.prog 31 #[.int .i64 k, .pointer (some ⟨D, 0, none⟩)] W fun e w' => e = .returned (.int .i64 (p k : Nat)) ∧ w' = W) :
    CallsIn Fence.wide 5 Try.prog 27 #[.slice a n cap, .int .i64 M, .func (.func 31) #[] #[.pointer (some ⟨D, 0, none⟩)]] w fun e w' => ∃ v, e = .returned v ∧ Ints w' w.heap.size v (fdL l M p M) ∧ Below w.heap.size w w' := by
  have hro : Fence.wide.round = none := rfl
  have HLN := Lib.hid hR.len
  have HR := Lib.hid hR; clear hR
  refine callsIn_of_wp_marks Try.func27 rfl trivial ?_ hro
  simp only [Try.ntmps27, List.size_toArray, List.length_cons, List.length_nil, Nat.reduceAdd, Nat.reduceSub, Array.replicate_succ, Array.replicate_zero, List.push_toArray, List.append_toArray, List.nil_append, List.cons_append]
  refine wpIn_wide.2 ?_
  go_wp2_with (first
    | (go_at_call 35; refine (concat_one (w.heap.size + 1) a b off n cap l _ (by have := blk_new (w.alloc (.cells #[.func (.func 31) #[] #[.pointer (some ⟨D, 0, none⟩)]] 35)) (.cells #[.slice a n cap] 27); rwa [World.size_alloc] at this) (HR.out.below (((Below.refl _ _).alloc (Nat.le_refl _) _).alloc (by simp) _) (Nat.le_refl _)) hn).mono ?_; rintro e w1 ⟨v, rfl, hI1, hB1⟩; obtain ⟨av, cv, rfl⟩ := hI1.isSlice; rw [HLN.out] at hI1 ⊢)
    | (go_at_call 34; refine (gains_any _ _).mono ?_; rintro e w' ⟨rfl, rfl⟩))
  have hsz := hB1.size
  simp only [World.size_alloc] at hsz hI1 hB1
  obtain ⟨W0, hW0⟩ : ∃ W0, W0 = (((w1.alloc (.cells #[.slice av n cv] 27)).alloc (.cells #[.func (.func 40) #[] #[.pointer (some ⟨w1.heap.size, 0, none⟩)]] 40)).alloc (.cells #[.int .i64 M] 3)) := ⟨_, rfl⟩
  have hz0 : W0.heap.size = w1.heap.size + 1 + 1 + 1 := by rw [hW0]; simp
  have n1 := blk_new w1 (.cells #[.slice av n cv] 27)
  have n2 := blk_new (w1.alloc (.cells #[.slice av n cv] 27)) (.cells #[.func (.func 40) #[] #[.pointer (some ⟨w1.heap.size, 0, none⟩)]] 40)
  have n3 := blk_new ((w1.alloc (.cells #[.slice av n cv] 27)).alloc (.cells #[.func (.func 40) #[] #[.pointer (some ⟨w1.heap.size, 0, none⟩)]] 40)) (.cells #[.int .i64 M] 3)
  have n0 := blk_new w (.cells #[.func (.func 31) #[] #[.pointer (some ⟨D, 0, none⟩)]] 35)
  simp only [World.size_alloc] at n1 n2 n3
  have hB0 : Below w.heap.size w W0 := by
    rw [hW0]
    exact (((((((Below.refl _ _).alloc (Nat.le_refl _) _).alloc (by simp) _)).trans (hB1.mono (by omega))).alloc (by omega) _).alloc (by simp; omega) _).alloc (by simp; omega) _
  have hst : FdR w W0 (.func (.func 31) #[] #[.pointer (some ⟨D, 0, none⟩)]) w1.heap.size n cv av l := by
    rw [hW0]
    refine ⟨blk_alloc (blk_alloc (blk_alloc (blk_below (blk_alloc n0 _) hB1 (by omega)) _) _) _, blk_alloc (blk_alloc n1 _) _, blk_alloc n2 _, ((hI1.alloc _).alloc _).alloc _⟩
  have hB3 : W0.heap[w1.heap.size + 1 + 1]? = some (.cells #[.int .i64 M] 3 (0, 0)) := by rw [hW0]; exact n3
  have hloc : ∀ g, (Value.slice av n cv).ownBlock = some g → g < w1.heap.size := fun g hg => (World.ownsRow.lt hI1 g hg).2
  rw [← hW0]
  have HF := Lib.hid (show _ ∧ _ ∧ _ from ⟨hst, hB0, hloc⟩)
  clear hst hB0 hloc hW0 n0 n1 n2 n3 hB1 hI1
  generalize w1.heap.size = X at *
  refine wpIn_wide.1 (?_ : Code.wpIn Fence.wide 5 _ _ _ _ _)
  refine wpIn_rangeFunc_ownH rfl (by omega) (gf := 44) (lb := #[.pointer (some ⟨X + 1 + 1, 0, none⟩)]) rfl trivial (enters_of Try.func44 (by kernel_rfl) rfl)
    (gains_stops _ (by omega) (X + 1 + 1) M (by omega) W0 (fun j => ¬ (j = X + 1 + 1)) (fun g => g rfl) hB3)
    kpEx_t kpEx_b (Below.refl _ _) (fun _ => rfl)
    (fun pre W => FdR w W (.func (.func 31) #[] #[.pointer (some ⟨D, 0, none⟩)]) X n cv av (fdX l M p (ixs pre)) ∧ Below w.heap.size w W)
    (fun c pre W => False ∧ Below w.heap.size w W)
    (OwnFrom.and (Own.from (fun s A B row hs hg hr => hs.grown hg hr) _) (ownFrom_below (Nat.le_refl _) (by omega)))
    (fun c => OwnFrom.and (Own.from (fun s A B row hs hg hr => hs.elim) _) (ownFrom_below (Nat.le_refl _) (by omega)))
    ⟨HF.out.1, HF.out.2.1⟩
    (fun x a' W => a' = { tmps := #[.slice a n cap, .int .i64 M, .func (.func 31) #[] #[.pointer (some ⟨D, 0, none⟩)], undef, undef, .pointer (some ⟨w.heap.size, 0, none⟩), .slice none 0 0, .pointer (some ⟨X, 0, none⟩), .pointer (some ⟨X + 1, 0, none⟩), .int .i64 x.1, .int .i64 (gainV x.1 M), .slice a n cap, .slice (some ⟨w.heap.size + 1, 0, none⟩) 1 1, .slice av n cv, .func (.func 40) #[] #[.pointer (some ⟨X, 0, none⟩)], .int .i64 M, .func (.func 44) #[] #[.pointer (some ⟨X + 1 + 1, 0, none⟩)], .int .i64 x.1, .int .i64 (gainV x.1 M), undef, undef, undef, undef, undef, undef, undef], defers := [] })
    (fun x a' => Own.from (fun s A B row hs hg hr => hs) _) ?assign ?body ?done ?stop
  case assign =>
    rintro lp pre x W K ⟨hI, hB⟩ hK
    simp only [encG]
    gi_wp2
    refine hK _ _ (KeepsFrom.refl _ _) (KpEx.refl _ _) ⟨hI, hB⟩ ?_
    rfl
  case body =>
    rintro lp pre x a' W _ hpre ⟨hI, hB⟩ rfl hpl
    obtain ⟨k, hk⟩ := x
    dsimp only at *
    have hfl := (fdX_len l M p (ixs pre)).trans HLN.out
    have hpn := hp k hk
    obtain ⟨gb, cp, hveq, hgb⟩ := hI.own.inBlock hfl (by omega)
    have hlo := HF.out.2.2 gb (by rw [hveq]; rfl)
    simp only [Value.slice.injEq, true_and] at hveq
    obtain ⟨rfl, rfl⟩ := hveq
    have dn := hI.own.cellAt hfl (p k) hpn
    have df := hI.own.freeAt hfl (p k)
    have c1 := blk_cell hI.s0 0
    have c2 := blk_cell hI.s2 0
    simp at c1 c2
    have hI0 := hI
    have hB0 := hB
    clear hI hB
    gi_wp2
    refine wpIn_round_from 0 3 (fun w' => w'.cell? ⟨w.heap.size, 0, none⟩ = some (.func (.func 31) #[] #[.pointer (some ⟨D, 0, none⟩)]) ∧ w'.cell? ⟨X + 1, 0, none⟩ = some (.func (.func 40) #[] #[.pointer (some ⟨X, 0, none⟩)])) (by kernel_rfl) (by kernel_rfl) (by rintro ⟨a, w, h⟩; exact h) (fun _ _ _ _ _ h => h) (by kernel_rfl) (by decide) (by kernel_rfl) ⟨c1, c2⟩ ?_
    simp only [List.drop_zero, List.take_succ_cons, List.take_zero]
    refine wpHeld_cons (.func (.func 40) #[] #[.pointer (some ⟨X, 0, none⟩)]) (by kernel_rfl) ?_ ?_
    · rintro w' ⟨s0, s1⟩
      try go_simp
    refine wpHeld_cons (.func (.func 31) #[] #[.pointer (some ⟨D, 0, none⟩)]) (by kernel_rfl) ?_ ?_
    · rintro w' ⟨s0, s1⟩
      try go_simp
    refine wpHeld_cons (.int .i64 k) (by kernel_rfl) ?_ ?_
    · rintro w' ⟨s0, s1⟩
      try go_simp
    refine wpHeld_nil ?_
    go_simp
    obtain ⟨Y, hY⟩ : ∃ Y, Y = (fdX l M p (ixs pre)).getD (p k) 0 := ⟨_, rfl⟩
    rw [← hY] at dn
    have HST := Lib.hid (hI0.step hfl (by omega) hlo hB0 (p k) (gmul Y (gainV k M)))
    have HX := Lib.hid hI0.s1
    have hk2 : p k < n := hpn
    have hSn : fdX l M p (ixs (pre ++ [(⟨k, hk⟩ : Ix M)])) = (fdX l M p (ixs pre)).set (p k) (gmul Y (gainV k M)) := by
      rw [ixs_snoc, fdX_snoc, hY]
    have HSN := Lib.hid hSn
    clear hSn hY
    refine wpAnyH_two (i := 3) (j := 4) (by kernel_rfl) rfl rfl (by kernel_rfl) (by kernel_rfl) (fun K' hK' => ?_) (fun K' hK' => ?_)
    · go_simp
      refine (hAt k W.drew hk hB0.drew).mono ?_
      rintro e W3 ⟨rfl, rfl⟩
      refine hK' _ _ ⟨c1, c2⟩ ?_
      clear hK' K'
      refine wpAnyH_one (i := 4) (by kernel_rfl) rfl (by kernel_rfl) (fun K' hK' => ?_)
      go_simp
      refine hK' _ _ ⟨c1, c2⟩ ?_
      clear hK' K'
      refine wpAnyH_one (i := 5) (by kernel_rfl) rfl (by kernel_rfl) (fun K' hK' => ?_)
      go_simp
      refine (change_any X gb n cv (p k) Y (gainV k M) W.drew HX.out hk2 dn df).mono ?_
      rintro e W3 ⟨⟨v, rfl⟩, rfl⟩
      refine hK' _ _ ⟨blk_cell HST.out.2.2.1.s0 0, blk_cell HST.out.2.2.1.s2 0⟩ ?_
      clear hK' K'
      refine wpAnyH_done (by kernel_rfl) ?_ _
      gi_wp2
      refine ⟨HST.out.1.from _, HST.out.2.1, ?_, HST.out.2.2.2⟩
      rw [HSN.out]
      exact HST.out.2.2.1
    · go_simp
      refine hK' _ _ ⟨c1, c2⟩ ?_
      clear hK' K'
      refine wpAnyH_one (i := 3) (by kernel_rfl) rfl (by kernel_rfl) (fun K' hK' => ?_)
      go_simp
      refine (hAt k W.drew hk hB0.drew).mono ?_
      rintro e W3 ⟨rfl, rfl⟩
      refine hK' _ _ ⟨c1, c2⟩ ?_
      clear hK' K'
      refine wpAnyH_one (i := 5) (by kernel_rfl) rfl (by kernel_rfl) (fun K' hK' => ?_)
      go_simp
      refine (change_any X gb n cv (p k) Y (gainV k M) W.drew HX.out hk2 dn df).mono ?_
      rintro e W3 ⟨⟨v, rfl⟩, rfl⟩
      refine hK' _ _ ⟨blk_cell HST.out.2.2.1.s0 0, blk_cell HST.out.2.2.1.s2 0⟩ ?_
      clear hK' K'
      refine wpAnyH_done (by kernel_rfl) ?_ _
      gi_wp2
      refine ⟨HST.out.1.from _, HST.out.2.1, ?_, HST.out.2.2.2⟩
      rw [HSN.out]
      exact HST.out.2.2.1
  case done =>
    rintro D xs W hD hxs ⟨hI, hB⟩ hDf
    rw [show ixs xs = List.range M from hxs, fdX_range l M p M hinj] at hI
    have c6 := blk_cell hI.s1 0
    simp at c6
    have HI := Lib.hid (show _ ∧ _ from ⟨hI.own, hB⟩)
    clear hI hB
    rename_i K hK
    refine hK _ _ ?_
    go_wp2_with fail
    have hI2 := (HI.out.1.grownNC (grownBy_putObj' _ D (.deferred none)) (fun r e => by cases e; exact ⟨_, hDf, rfl⟩)).mono (show w.heap.size ≤ w.heap.size + 2 by omega)
    have hB2 := HI.out.2.trans (belowK_b (w := w) (Nat.le_refl _) _ D _ (.deferred none) (by omega) hDf rfl rfl)
    have HZ := Lib.hid (show _ ∧ _ from ⟨hI2, hB2⟩)
    clear hI2 hB2
    refine ⟨by simp, .inl ⟨_, _, rfl, run_takeDeferred hDf, ?_⟩⟩
    exact ⟨.slice av n cv, by simp [results, Try.results27, go_sem], _, rfl, HZ.out.1, HZ.out.2⟩
  case stop =>
    rintro D cc pre W hD _ ⟨hF, _⟩ _
    exact hF.elim
end Go.Proofs.Ytagikfiiljdpnaa
