/- The contract of gestures.values (layer 12). -/
import Derived.Test.YtmblkmllamccnaaGesVM
import Derived.OwnWalkIn
namespace Go.Proofs.Ytmblkmllamccnaa
open Go.RowKit Go.Shelf

attribute [local go_sem] Oper.semAt_some

/-- What values keeps in memory. -/
structure VsR (w W : World) (F : Int) (X sn cv : Nat) (av : Option Addr) (xs : List Int) : Prop where
  s0 : W.heap[w.heap.size]? = some (.cells #[.int .i64 F] 3 (0, 0))
  s1 : W.heap[X]? = some (.cells #[.slice av sn cv] 30 (0, 0))
  own : Ints W (w.heap.size + 1) (.slice av sn cv) xs
theorem Ints.grownNC {w w' : World} {B : Nat} {v : Value} {l : List Int} {row : Option Nat} (h : Ints w B v l) (hg : w.grownBy w' row) (hr : ∀ r, row = some r → ∃ o : Obj, w.heap[r]? = some o ∧ o.isCells = false) : Ints w' B v l := by
  refine ⟨h.1, ?_⟩
  rcases h.2 with h0 | ⟨g, cap, cur, h1, h2, h3, h4⟩
  · exact .inl h0
  · exact .inr ⟨g, cap, cur, h1, h2, blk_kept h3 hg hr, h4⟩
theorem VsR.grown {w A B : World} {F : Int} {X sn cv : Nat} {av : Option Addr} {xs : List Int} {r : Option Nat} (h : VsR w A F X sn cv av xs) (hg : A.grownBy B r) (hr : ∀ q, r = some q → ∃ o : Obj, A.heap[q]? = some o ∧ o.isCells = false) : VsR w B F X sn cv av xs :=
  ⟨blk_kept h.s0 hg hr, blk_kept h.s1 hg hr, h.own.grownNC hg hr⟩
theorem VsR.below {w A B : World} {F : Int} {X sn cv : Nat} {av : Option Addr} {xs : List Int} (h : VsR w A F X sn cv av xs) (hb : Below A.heap.size A B) : VsR w B F X sn cv av xs :=
  ⟨blk_below h.s0 hb (Array.getElem?_eq_some_iff.1 h.s0).1, blk_below h.s1 hb (Array.getElem?_eq_some_iff.1 h.s1).1, h.own.below hb (Nat.le_refl _)⟩
theorem others_below {W W' : World} (h : Below W.heap.size W W') : KeepsOthers W W' := ⟨h.size, fun k _ hk _ => (h.block k (Array.getElem?_eq_some_iff.1 hk).1).trans hk⟩
theorem Ints.farI {W : World} {X i B : Nat} {v u : Value} {x : List Int} (h : Ints W B v x) (hX : X < B) : Ints (W.setCell ⟨X, i, none⟩ u) B v x := by
  refine ⟨h.1, ?_⟩
  rcases h.2 with h0 | ⟨g, cap, cur, h1, h2, h3, h4⟩
  · exact .inl h0
  · exact .inr ⟨g, cap, cur, h1, h2, (Below.heap_setCell _ _ _ _ (show g ≠ X by omega)).trans h3, h4⟩
/-- A store into the values' own block. -/
theorem VsR.step {w W : World} {F : Int} {X sn cv gb : Nat} {xs : List Int} (h : VsR w W F X sn cv (some ⟨gb, 0, none⟩) xs) (hl : xs.length = sn) (h1 : w.heap.size + 1 ≤ gb) (h2 : gb < X) (i : Nat) (y : Int) :
    KeepsOthers W (W.setCell ⟨gb, i, none⟩ (.int .i64 y)) ∧ KpEx (fun j => j = gb) W (W.setCell ⟨gb, i, none⟩ (.int .i64 y)) ∧
      VsR w (W.setCell ⟨gb, i, none⟩ (.int .i64 y)) F X sn cv (some ⟨gb, 0, none⟩) (xs.set i y) ∧ ∀ a, Below w.heap.size a W → Below w.heap.size a (W.setCell ⟨gb, i, none⟩ (.int .i64 y)) := by
  have far : ∀ q ob, q ≠ gb → W.heap[q]? = some ob → (W.setCell ⟨gb, i, none⟩ (.int .i64 y)).heap[q]? = some ob := fun q ob hq hw => (Below.heap_setCell W ⟨gb, i, none⟩ (.int .i64 y) q hq).trans hw
  refine ⟨KeepsOthers.setCell _ _ _, ⟨?_, fun k ob hk _ hn => far _ _ hn hk⟩, ⟨far _ _ (by omega) h.s0, far _ _ (by omega) h.s1, Ints.stored hl h.own i y⟩, fun a ha => ha.setCell (p := ⟨gb, i, none⟩) (by show w.heap.size ≤ gb; omega) _⟩
  rw [World.size_setCell]
  exact Nat.le_refl _

set_option maxRecDepth 100000 in
set_option maxHeartbeats 8000000 in
theorem gvals_in (sa : Option Addr) (sb soff sn scap : Nat) (base : List Int) (F : Int) (a : Option Addr) (b off n cap : Nat) (l : List Gt) (w : World) (hR : Row w sa sb soff sn base) (hsn : sn ≤ 65536) (hsc : sa = none → scap = 0) (hw : ∀ x ∈ base, (Lit.int .i64 x).wf = true)
    (hM : Gs w a n b off l) (hbM : 0 < n → ∃ c tb fr, w.heap[b]? = some (.cells c tb fr)) (hok : Ges l) (f1 : -9223372036854775808 ≤ F) (f2 : F ≤ 9223372036854775807) :
    CallsIn Fence.wide 6 Try.prog 21 #[.slice sa sn scap, .int .i64 F, .slice a n cap] w fun e w' => RV e w' w.heap.size (gvals l base F sn) ∧ Below w.heap.size w w' := by
  have hro : Fence.wide.round = none := rfl
  have hbl := hR.len
  have hn64 : n ≤ 64 := by rw [← hM.1]; exact hok.1
  have HA := Lib.hid (show _ ∧ _ ∧ _ ∧ _ ∧ _ from ⟨hR, hw, hM, hbM, hok⟩)
  clear hR hw hM hbM hok
  refine callsIn_of_wp_marks Try.func21 rfl trivial ?_ hro
  simp only [Try.ntmps21, List.size_toArray, List.length_cons, List.length_nil, Nat.reduceAdd, Nat.reduceSub, Array.replicate_succ, Array.replicate_zero, List.push_toArray, List.append_toArray, List.nil_append, List.cons_append]
  have hB0 : Below w.heap.size w (w.alloc (.cells #[.int .i64 F] 3)) := (Below.refl _ _).alloc (Nat.le_refl _) _
  have n0 := blk_new w (.cells #[.int .i64 F] 3)
  have HB0 := Lib.hid (show _ ∧ _ from ⟨hB0, n0⟩)
  clear hB0 n0
  refine wpIn_wide.2 ?_
  go_wp2_with fail
  refine (clone_any sa sb soff sn scap base _ (HA.out.1.below HB0.out.1 (Nat.le_refl _)) (by omega) hsc).mono ?_
  rintro e w1 ⟨⟨v, rfl, hI⟩, hb⟩
  obtain ⟨av, cv, rfl⟩ := hI.isSlice
  rw [hbl] at hI ⊢
  rw [World.size_alloc] at hI
  have n1 := blk_below HB0.out.2 hb (by simp)
  have hs1 := hb.size
  rw [World.size_alloc] at hs1
  have B1 := below_after HB0.out.1 hb (by simp)
  have HI := Lib.hid (show _ ∧ _ ∧ _ from ⟨hI, n1, B1⟩)
  have c0 := blk_cell n1 0
  simp at c0
  have hw1 : w.heap.size < w1.heap.size := by omega
  clear hI n1 B1 hb
  go_wp2_with (go_at_call 26; refine (reaching_any _ _ _ _ _ _).mono ?_; rintro e w' ⟨rfl, rfl⟩)
  obtain ⟨W0, hW0⟩ : ∃ W0, W0 = (((w1.alloc (.cells #[.slice av sn cv] 30)).alloc (.cells #[.slice a n cap] 22)).alloc (.cells #[.int .i64 F] 3)).alloc (.cells #[.int .i64 sn] 3) := ⟨_, rfl⟩
  have hz0 : W0.heap.size = w1.heap.size + 1 + 1 + 1 + 1 := by rw [hW0]; simp
  have m1 := blk_new w1 (.cells #[.slice av sn cv] 30)
  have m2 := blk_new (w1.alloc (.cells #[.slice av sn cv] 30)) (.cells #[.slice a n cap] 22)
  have m3 := blk_new ((w1.alloc (.cells #[.slice av sn cv] 30)).alloc (.cells #[.slice a n cap] 22)) (.cells #[.int .i64 F] 3)
  have m4 := blk_new (((w1.alloc (.cells #[.slice av sn cv] 30)).alloc (.cells #[.slice a n cap] 22)).alloc (.cells #[.int .i64 F] 3)) (.cells #[.int .i64 sn] 3)
  simp only [World.size_alloc] at m2 m3 m4
  have hB10 : Below w1.heap.size w1 W0 := by rw [hW0]; exact ((((Below.refl _ _).alloc (Nat.le_refl _) _).alloc (by simp) _).alloc (by simp; omega) _).alloc (by simp; omega) _
  have hst : VsR w W0 F w1.heap.size sn cv av base := by
    refine ⟨blk_below HI.out.2.1 hB10 (by omega), ?_, HI.out.1.below hB10 (Nat.le_refl _)⟩
    rw [hW0]; exact blk_alloc (blk_alloc (blk_alloc m1 _) _) _
  have hBW0 : Below w.heap.size w W0 := below_after HI.out.2.2 hB10 (by omega)
  have k2 : W0.heap[w1.heap.size + 1]? = some (.cells #[.slice a n cap] 22 (0, 0)) := by rw [hW0]; exact blk_alloc (blk_alloc m2 _) _
  have k3 : W0.heap[w1.heap.size + 1 + 1]? = some (.cells #[.int .i64 F] 3 (0, 0)) := by rw [hW0]; exact blk_alloc m3 _
  have k4 : W0.heap[w1.heap.size + 1 + 1 + 1]? = some (.cells #[.int .i64 sn] 3 (0, 0)) := by rw [hW0]; exact m4
  have hloc : ∀ g, (Value.slice av sn cv).ownBlock = some g → w.heap.size + 1 ≤ g ∧ g < w1.heap.size := fun g hg => World.ownsRow.lt HI.out.1 g hg
  have hMb : 0 < n → b < w.heap.size := fun h => (HA.out.2.2.1.2.1 h).2
  have hst0 : stG l base F sn [] = base := by rw [← hbl]; exact stG_nil
  rw [← hst0] at hst
  rw [← hW0]
  have HF := Lib.hid (show _ ∧ _ ∧ _ from ⟨hst, hBW0, hloc⟩)
  clear hst hBW0 hW0 m1 m2 m3 m4 hB10 hst0 c0
  refine wpIn_wide.1 (?_ : Code.wpIn Fence.wide 6 _ _ _ _ _)
  refine wpIn_rangeFunc_ownH rfl (by omega) (gf := 32) (lb := #[.pointer (some ⟨w1.heap.size + 1 + 1, 0, none⟩), .pointer (some ⟨w1.heap.size + 1, 0, none⟩), .pointer (some ⟨w1.heap.size + 1 + 1 + 1, 0, none⟩)]) rfl trivial (enters_of Try.func32 (by kernel_rfl) rfl)
    (reaching_stops _ (by omega) (w1.heap.size + 1 + 1) (w1.heap.size + 1) (w1.heap.size + 1 + 1 + 1) b off n cap a l F sn (fun q => (Value.slice av sn cv).ownBlock = some q) HA.out.2.2.2.2 f1 f2 (by omega) (by omega) W0
      (fun h => by have := hloc _ h; omega) (fun h => by have := hloc _ h; omega) (fun h => by have := hloc _ h; omega) (fun h0 h => by have := hloc _ h; have := hMb h0; omega) (fun q hq h => by have := hloc _ h; omega)
      (fun h => by obtain ⟨c, tb, fr, h1⟩ := HA.out.2.2.2.1 h; exact ⟨c, tb, fr, blk_below h1 HF.out.2.1 (hMb h)⟩) k3 k2 k4 (HA.out.2.2.1.grown HF.out.2.1))
    kpEx_t kpEx_b (Below.refl _ _) (fun _ => rfl)
    (fun pre W => (VsR w W F w1.heap.size sn cv av (stG l base F sn (ixs pre)) ∧ W0.heap.size ≤ W.heap.size) ∧ Below w.heap.size w W)
    (fun c pre W => False ∧ Below w.heap.size w W)
    (OwnFrom.and (Own.from (fun s A B row hs hg hr => ⟨hs.1.grown hg hr, Nat.le_trans hs.2 hg.size⟩) _) (ownFrom_below (Nat.le_refl _) (by omega)))
    (fun c => OwnFrom.and (Own.from (fun s A B row hs hg hr => hs.elim) _) (ownFrom_below (Nat.le_refl _) (by omega)))
    ⟨⟨HF.out.1, Nat.le_refl _⟩, HF.out.2.1⟩
    (fun x a' W => ∃ Bx, W0.heap.size ≤ Bx ∧ W.heap[Bx]? = some (.cells #[endV (nthG l x.1).m, chgV (nthG l x.1).m, .int .i64 (nthG l x.1).m, .int .i64 (nthG l x.1).f, .int .i64 (nthG l x.1).t, .int .i64 (nthG l x.1).u, .slice (nthG l x.1).ka (nthG l x.1).kn (nthG l x.1).kc, .int .i64 (max F (nthG l x.1).f), .int .i64 (min (F + sn) (nthG l x.1).u)] 62 (0, 0)) ∧ a' = { tmps := List.toArray ((.slice sa sn scap : Value) :: (.int .i64 F : Value) :: (.slice a n cap : Value) :: undef :: (.pointer (some ⟨w.heap.size, 0, none⟩) : Value) :: undef :: (.slice none 0 0 : Value) :: (.pointer (some ⟨w1.heap.size, 0, none⟩) : Value) :: (.pointer (some ⟨Bx, 0, none⟩) : Value) :: undef :: undef :: undef :: (.slice sa sn scap : Value) :: (.slice av sn cv : Value) :: (.slice a n cap : Value) :: (.int .i64 F : Value) :: (.slice sa sn scap : Value) :: (.int .i64 sn : Value) :: (.func (.func 32) #[] #[.pointer (some ⟨w1.heap.size + 1 + 1, 0, none⟩), .pointer (some ⟨w1.heap.size + 1, 0, none⟩), .pointer (some ⟨w1.heap.size + 1 + 1 + 1, 0, none⟩)] : Value) :: (reV (nthG l x.1) F sn : Value) :: undef :: undef :: undef :: undef :: undef :: undef :: undef :: undef :: undef :: undef :: undef :: undef :: undef :: undef :: undef :: undef :: undef :: undef :: undef :: undef :: undef :: undef :: undef :: undef :: undef :: undef :: undef :: undef :: []), defers := [] })
    (fun x a' => Own.from (fun s A B row hs hg hr => by obtain ⟨Bx, h1, h2, h3⟩ := hs; exact ⟨Bx, h1, blk_kept h2 hg hr, h3⟩) _) ?assign ?body ?done ?stop
  case assign =>
    rintro lp pre x W K ⟨⟨hI, hsW⟩, hB⟩ hK
    simp only [encR]
    obtain ⟨E1, hE1⟩ : ∃ i, endV (nthG l x.1).m = .func (.func i) #[] #[] := by unfold endV; split <;> exact ⟨_, rfl⟩
    obtain ⟨C1, hC1⟩ : ∃ i, chgV (nthG l x.1).m = .func (.func i) #[] #[] := by unfold chgV; split <;> exact ⟨_, rfl⟩
    unfold reV
    rw [hE1, hC1]
    gi_wp2
    refine hK _ _ ((KeepsOthers.alloc _ _).from _) (KpEx.alloc _ _ _) ⟨⟨hI.below ((Below.refl _ _).alloc (Nat.le_refl _) _), Nat.le_trans hsW (by simp)⟩, hB.alloc hB.size _⟩ ⟨W.heap.size, hsW, by rw [hE1, hC1]; exact blk_new W _, by unfold reV; rw [hE1, hC1]⟩
  case body =>
    rintro lp pre x a' W _ _ ⟨⟨hI, hsW⟩, hB⟩ ⟨Bx, hBx, hXB, rfl⟩ hpl
    have hix : ∀ i ∈ ixs pre, i < l.length := fun i hi => by have := ixs_lt pre i hi; have := HA.out.2.2.1.1; omega
    have hsn2 := ixs_snoc pre x
    obtain ⟨k, hk, hr⟩ := x
    have hl := HA.out.2.2.1.1
    have hg := HA.out.2.2.2.2.2 k (by omega)
    have hGK := (HA.out.2.2.1.2.2 k hk).2.grown hB
    have hupd := fun p q h => updG_all (l := l) (base := base) (F := F) (N := sn) (p := p) (q := q) (i := k) (is := ixs pre) h
    rw [← hsn2] at hupd
    have hLlen := stG_len l base F sn (ixs pre)
    have hLin : ∀ j, j < sn → -9223372036854775808 ≤ (stG l base F sn (ixs pre)).getD j 0 ∧ (stG l base F sn (ixs pre)).getD j 0 ≤ 9223372036854775807 := fun j hj => by
      rw [stG_get hj]
      have hx := bounds_i64 (HA.out.2.1 (base.getD j 0) (by rw [List.getD_eq_getElem?_getD]; simp [show j < base.length by omega]))
      exact fold_in HA.out.2.2.2.2 _ _ hix hx.1 hx.2
    have hre : max F (nthG l k).f < min (F + sn) (nthG l k).u := by unfold rch at hr; simpa using hr
    dsimp only at hXB ⊢
    unfold reV
    generalize stG l base F sn (ixs pre) = L at *
    generalize hL2 : stG l base F sn (ixs (pre ++ [⟨k, hk, hr⟩])) = L2 at *
    have HL2 := Lib.hid hL2
    generalize nthG l k = g at *
    obtain ⟨E1, hE1⟩ : ∃ i, endV g.m = .func (.func i) #[] #[] := by unfold endV; split <;> exact ⟨_, rfl⟩
    obtain ⟨p, hp⟩ : ∃ p : Nat, max F g.f = F + (p : Int) := ⟨(max F g.f - F).toNat, by omega⟩
    obtain ⟨cnt, hcnt⟩ : ∃ cnt : Nat, min (F + sn) g.u = F + (p : Int) + (cnt : Int) := ⟨(min (F + sn) g.u - F - p).toNat, by omega⟩
    obtain ⟨CG, hCG⟩ : ∃ CG, CG = chgV g.m := ⟨_, rfl⟩
    rw [hE1, hp, hcnt, ← hCG] at hXB
    rw [hE1, hp, hcnt, ← hCG]
    have hpc : p + cnt ≤ sn ∧ 0 < cnt := by omega
    have hF0 : 0 ≤ F + (p : Int) ∧ F + (p : Int) + (cnt : Int) ≤ 1099511627776 := by have := hg.2.1; have := hg.2.2.2.2.1; omega
    have hall : updG L g F sn p cnt = L2 := hupd p cnt (fun j hj h => by omega)
    have HU := Lib.hid (show _ ∧ _ ∧ _ ∧ _ from ⟨hall, hLlen, hLin, hg⟩)
    have HG := Lib.hid (show _ ∧ _ ∧ _ ∧ _ from ⟨hp, hcnt, hCG, hGK⟩)
    obtain ⟨gb, c', hveq, hgb⟩ := hI.own.inBlock hLlen (by omega)
    have hlo := HF.out.2.2 gb (by rw [hveq]; rfl)
    have hgf : g.f ≤ F + (p : Int) := by omega
    clear hupd hall hLlen hLin hix hsn2 hre hE1 hp hcnt hCG hGK hpl hg hL2
    simp only [Value.slice.injEq, true_and] at hveq
    obtain ⟨rfl, rfl⟩ := hveq
    have hXs := (Array.getElem?_eq_some_iff.1 hXB).1
    have HI0 := Lib.hid (show _ ∧ _ ∧ _ from ⟨hI, hB, hXB⟩)
    have r0 := blk_cell hXB 0; have r1 := blk_cell hXB 1; have r2 := blk_cell hXB 2; have r3 := blk_cell hXB 3; have r4 := blk_cell hXB 4; have r5 := blk_cell hXB 5; have r6 := blk_cell hXB 6; have r7 := blk_cell hXB 7; have r8 := blk_cell hXB 8
    simp at r0 r1 r2 r3 r4 r5 r6 r7 r8
    obtain ⟨hpc1, hpc2⟩ := hpc
    obtain ⟨hF0, hF9⟩ := hF0
    obtain ⟨hlo1, hlo2⟩ := hlo
    obtain ⟨ci, hci⟩ : ∃ ci, CG = .func (.func ci) #[] #[] := by rw [HG.out.2.2.1]; unfold chgV; split <;> exact ⟨_, rfl⟩
    subst hci
    clear hI hB hXB
    gi_wp2
    refine ⟨trivial, ?_⟩
    refine (CallsIn.inRound lp (callsIn_wide.2 (gcurve_any E1 ci g (F + (p : Int)) (F + (p : Int) + (cnt : Int)) cnt W HG.out.2.2.2 HU.out.2.2.2 hF0 (by omega) rfl hF9 (by omega)))).mono ?_
    rintro e W2 ⟨⟨v, rfl, hIv⟩, hb2⟩
    obtain ⟨cg, cc, hvv, hcg⟩ := hIv.inBlock (crv_len _ _ _) hpc2
    subst hvv
    have hs2 := hb2.size
    have HI2 := Lib.hid (show _ ∧ _ ∧ _ ∧ _ from ⟨HI0.out.1.below hb2, below_after HI0.out.2.1 hb2 HI0.out.2.1.size, blk_below HI0.out.2.2 hb2 hXs, hIv⟩)
    have HB2 := Lib.hid hb2
    clear hb2 hIv r0 r1 r2 r3 r4 r5 r6 r7 r8
    gi_wp2
    gi_loopw [23] (fun i wr => ∃ q : Nat, q ≤ cnt ∧ i = .int .i64 q ∧ VsR w wr F w1.heap.size sn cv (some ⟨gb, 0, none⟩) (updG L g F sn p q) ∧ Ints wr W.heap.size (.slice (some ⟨cg, 0, none⟩) cnt cc) (crv g (F + (p : Int)) cnt) ∧ wr.heap[Bx]? = some (.cells #[.func (.func E1) #[] #[], .func (.func ci) #[] #[], .int .i64 g.m, .int .i64 g.f, .int .i64 g.t, .int .i64 g.u, .slice g.ka g.kn g.kc, .int .i64 (F + (p : Int)), .int .i64 (F + (p : Int) + (cnt : Int))] 62 (0, 0)) ∧ KeepsOthers W wr ∧ KpEx (fun j => j = gb) W wr ∧ W0.heap.size ≤ wr.heap.size ∧ Below w.heap.size w wr) (fun i _ => cnt - (intOf i).toNat)
    case atStart =>
      have e0 : updG L g F sn p 0 = L := by have := HU.out.2.1; rw [← this]; exact updG_zero
      exact ⟨0, Nat.zero_le _, rfl, by rw [e0]; exact HI2.out.1, HI2.out.2.2.2, HI2.out.2.2.1, others_below HB2.out, KpEx.below _ HB2.out, by omega, HI2.out.2.1⟩
    case round =>
      obtain ⟨q, hq, rfl, hV, hC, hX, hKO, hKp, hsr, hB⟩ := hrel
      have c0 := blk_cell hV.s0 0; have c1 := blk_cell hV.s1 0
      have r1 := blk_cell hX 1; have r7 := blk_cell hX 7
      simp at c0 c1 r1 r7
      by_cases hlt : q < cnt
      case neg =>
        obtain rfl : q = cnt := by omega
        rw [HU.out.1, ← HL2.out] at hV
        have HE := Lib.hid (show _ ∧ _ ∧ _ ∧ _ from ⟨hV, hKO, hKp, hB⟩)
        clear hV hKO hKp hB hX hC c0 c1 r1 r7
        gi_wp2
        exact ⟨HE.out.2.1.from _, ⟨HE.out.2.2.1.size, fun k ob h1 h2 h3 => HE.out.2.2.1.same k ob h1 h2 (fun e => h3 (by subst e; rfl))⟩, ⟨HE.out.1, hsr⟩, HE.out.2.2.2⟩
      have d0 := hC.cellAt (crv_len _ _ _) q hlt
      have e0 := hV.own.cellAt (updG_len _ _ _ _ _ _) (p + q) (by omega)
      have e1 := hV.own.freeAt (updG_len _ _ _ _ _ _) (p + q)
      have i2 : (q : Int) < (cnt : Int) := by omega
      have i3 : (p : Int) + (q : Int) < (sn : Int) := by omega
      rw [updG_at (by omega)] at e0
      have hin := HU.out.2.2.1 (p + q) (by omega)
      have hsuc := updG_succ (L := L) (g := g) (F := F) (N := sn) (p := p) (q := q) (by omega)
      have hcv : (crv g (F + (p : Int)) cnt).getD q 0 = valC g.ks (min (F + (p : Int) + (q : Int)) (g.t - 1)) := by unfold crv; rw [getD_map_range hlt]
      have hcin := valC_in HU.out.2.2.2.2.2.2.2.2.2.2 (min (F + (p : Int) + (q : Int)) (g.t - 1))
      generalize hY : L.getD (p + q) 0 = Y at *
      generalize hZ : (crv g (F + (p : Int)) cnt).getD q 0 = Z at *
      have HS := Lib.hid (show _ ∧ _ ∧ _ ∧ _ ∧ _ ∧ _ ∧ _ ∧ _ from ⟨hV, hC, hX, hKO, hKp, hB, hsuc, hcv⟩)
      rw [← hcv] at hcin
      clear hV hC hX hKO hKp hB hsuc hcv hY hZ
      have hmd : made Y g (F + ((p + q : Nat) : Int)) = chg g.m Y Z := by
        unfold made
        rw [if_pos ⟨by omega, by have := HG.out.2.1; omega⟩, HS.out.2.2.2.2.2.2.2]
        congr 3
        omega
      have HMD := Lib.hid hmd
      have hci := HG.out.2.2.1
      have i4 : ((p + q : Nat) : Int) < (sn : Int) := by omega
      have i5 : p + q < sn := by omega
      have i6 : 0 ≤ (p : Int) + (q : Int) := by omega
      have i7 : ((p : Int) + (q : Int)).toNat = p + q := by omega
      clear hmd
      gi_wp2
      rw [show F + (p : Int) - F + (q : Int) = ((p + q : Nat) : Int) by omega]
      by_cases hm3 : g.m = 3
      · rw [hm3] at hci
        obtain rfl : ci = 44 := by simpa [chgV] using hci
        have hnv := HMD.out.trans (by rw [hm3]; rfl : chg g.m Y Z = clip (Y + Z))
        have HNV := Lib.hid hnv
        clear hnv hci hm3
        refine wpIn_round_from 0 7 (fun w' => w'.cell? ⟨w1.heap.size, 0, none⟩ = some (.slice (some ⟨gb, 0, none⟩) sn cv) ∧ w'.cell? ⟨Bx, 1, none⟩ = some (.func (.func 44) #[] #[])) (by kernel_rfl) (by kernel_rfl) (by rintro ⟨a, w, h⟩; exact h) (fun _ _ _ _ _ h => h) (by kernel_rfl) (by decide) (by kernel_rfl) ⟨c1, r1⟩ ?_
        simp only [List.drop_zero, List.take_succ_cons, List.take_zero]
        refine wpHeld_cons (.slice (some ⟨gb, 0, none⟩) sn cv) (by kernel_rfl) ?_ ?_
        · rintro w' ⟨s0, s1⟩
          try go_simp
        refine wpHeld_cons (.int .i64 ((p + q : Nat) : Int)) (by kernel_rfl) ?_ ?_
        · rintro w' ⟨s0, s1⟩
          try go_simp
        refine wpHeld_cons (.pointer (some ⟨Bx, 0, none⟩)) (by kernel_rfl) ?_ ?_
        · rintro w' ⟨s0, s1⟩
          try go_simp
        refine wpHeld_cons (.pointer (some ⟨Bx, 1, none⟩)) (by kernel_rfl) ?_ ?_
        · rintro w' ⟨s0, s1⟩
          try go_simp
        refine wpHeld_cons (.func (.func 44) #[] #[]) (by kernel_rfl) ?_ ?_
        · rintro w' ⟨s0, s1⟩
          try go_simp
        refine wpHeld_cons (.slice (some ⟨gb, 0, none⟩) sn cv) (by kernel_rfl) ?_ ?_
        · rintro w' ⟨s0, s1⟩
          try go_simp
        refine wpHeld_cons (.int .i64 ((p + q : Nat) : Int)) (by kernel_rfl) ?_ ?_
        · rintro w' ⟨s0, s1⟩
          try go_simp
        refine wpHeld_nil ?_
        go_simp
        refine wpAnyH_from 7 1 (fun _ _ _ _ _ h => h) (by kernel_rfl) (by decide) (by kernel_rfl) ⟨c1, r1⟩ ?_
        simp only [List.drop_succ_cons, List.drop_zero, List.take_succ_cons, List.take_zero]
        refine wpHeld_cons (.pointer (some ⟨gb, p + q, none⟩)) (by kernel_rfl) ?_ ?_
        · rintro w' ⟨s0, s1⟩
          try go_simp
        refine wpHeld_nil ?_
        go_simp
        refine wpAnyH_from 9 1 (fun _ _ _ _ _ h => h) (by kernel_rfl) (by decide) (by kernel_rfl) ⟨c1, r1⟩ ?_
        simp only [List.drop_succ_cons, List.drop_zero, List.take_succ_cons, List.take_zero]
        refine wpHeld_cons (.int .i64 Z) (by kernel_rfl) ?_ ?_
        · rintro w' ⟨s0, s1⟩
          try go_simp
        refine wpHeld_nil ?_
        go_simp
        refine wpAnyH_one (i := 8) (by kernel_rfl) rfl (by kernel_rfl) (fun K' hK' => ?_)
        go_simp
        refine hK' _ _ ⟨c1, r1⟩ ?_
        clear hK' K'
        refine wpAnyH_one (i := 10) (by kernel_rfl) rfl (by kernel_rfl) (fun K' hK' => ?_)
        go_simp
        refine (fadd_any Y Z _ hin.1 hin.2 (by omega) (by omega)).mono ?_
        rintro e W3 ⟨rfl, rfl⟩
        refine hK' _ _ ⟨c1, r1⟩ ?_
        clear hK' K'
        refine wpAnyH_one (i := 11) (by kernel_rfl) rfl (by kernel_rfl) (fun K' hK' => ?_)
        go_simp
        refine hK' _ _ ⟨c1, r1⟩ ?_
        clear hK' K'
        refine wpAnyH_one (i := 12) (by kernel_rfl) rfl (by kernel_rfl) (fun K' hK' => ?_)
        have HST := HS.out.1.step (updG_len _ _ _ _ _ _) hlo1 hlo2 (p + q) (clip (Y + Z))
        have hX5 := (Below.heap_setCell wr ⟨gb, p + q, none⟩ (.int .i64 (clip (Y + Z))) Bx (show Bx ≠ gb by omega)).trans HS.out.2.2.1
        have hC5 := HS.out.2.1.farI (X := gb) (i := p + q) (u := .int .i64 (clip (Y + Z))) (by omega)
        go_simp
        have hsz5 : (wr.setCell ⟨gb, p + q, none⟩ (.int .i64 (clip (Y + Z)))).heap.size = wr.heap.size := World.size_setCell _ _ _
        generalize wr.setCell ⟨gb, p + q, none⟩ (.int .i64 (clip (Y + Z))) = W5 at *
        have hdr : Below W5.heap.size W5 W5.drew := (Below.refl _ _).drew
        have hV6 := HST.2.2.1.below hdr
        have hX6 := blk_drew hX5
        refine hK' _ _ ⟨blk_cell hV6.s1 0, blk_cell hX6 1⟩ ?_
        clear hK' K'
        refine wpAnyH_done (by kernel_rfl) ?_ _
        have hsu := HS.out.2.2.2.2.2.2.1
        rw [HNV.out] at hsu
        have HE := Lib.hid (show _ ∧ _ ∧ _ ∧ _ ∧ _ ∧ _ ∧ _ from ⟨hV6, hC5.below hdr (Nat.le_refl _), hX6, (HS.out.2.2.2.1.trans HST.1).trans (others_below hdr), kpEx_t (kpEx_t HS.out.2.2.2.2.1 HST.2.1) (KpEx.below _ hdr), (HST.2.2.2 _ HS.out.2.2.2.2.2.1).drew, hsu⟩)
        clear HST hX5 hC5 hV6 hX6 hsu hdr c0 c1 r1 r7 d0 e0 e1
        gi_wp2
        go_roundw
        case rel => exact ⟨q + 1, by omega, by go_num, by rw [← HE.out.2.2.2.2.2.2]; exact HE.out.1, HE.out.2.1, HE.out.2.2.1, HE.out.2.2.2.1, HE.out.2.2.2.2.1, by show W0.heap.size ≤ W5.heap.size; omega, HE.out.2.2.2.2.2.1⟩
        case measure => simp [intOf]; omega
      · obtain rfl : ci = 42 := by simpa [chgV, hm3] using hci
        have hnv := HMD.out.trans (if_neg hm3 : chg g.m Y Z = Z)
        have HNV := Lib.hid hnv
        clear hnv hci hm3
        refine wpIn_round_from 0 7 (fun w' => w'.cell? ⟨w1.heap.size, 0, none⟩ = some (.slice (some ⟨gb, 0, none⟩) sn cv) ∧ w'.cell? ⟨Bx, 1, none⟩ = some (.func (.func 42) #[] #[])) (by kernel_rfl) (by kernel_rfl) (by rintro ⟨a, w, h⟩; exact h) (fun _ _ _ _ _ h => h) (by kernel_rfl) (by decide) (by kernel_rfl) ⟨c1, r1⟩ ?_
        simp only [List.drop_zero, List.take_succ_cons, List.take_zero]
        refine wpHeld_cons (.slice (some ⟨gb, 0, none⟩) sn cv) (by kernel_rfl) ?_ ?_
        · rintro w' ⟨s0, s1⟩
          try go_simp
        refine wpHeld_cons (.int .i64 ((p + q : Nat) : Int)) (by kernel_rfl) ?_ ?_
        · rintro w' ⟨s0, s1⟩
          try go_simp
        refine wpHeld_cons (.pointer (some ⟨Bx, 0, none⟩)) (by kernel_rfl) ?_ ?_
        · rintro w' ⟨s0, s1⟩
          try go_simp
        refine wpHeld_cons (.pointer (some ⟨Bx, 1, none⟩)) (by kernel_rfl) ?_ ?_
        · rintro w' ⟨s0, s1⟩
          try go_simp
        refine wpHeld_cons (.func (.func 42) #[] #[]) (by kernel_rfl) ?_ ?_
        · rintro w' ⟨s0, s1⟩
          try go_simp
        refine wpHeld_cons (.slice (some ⟨gb, 0, none⟩) sn cv) (by kernel_rfl) ?_ ?_
        · rintro w' ⟨s0, s1⟩
          try go_simp
        refine wpHeld_cons (.int .i64 ((p + q : Nat) : Int)) (by kernel_rfl) ?_ ?_
        · rintro w' ⟨s0, s1⟩
          try go_simp
        refine wpHeld_nil ?_
        go_simp
        refine wpAnyH_from 7 1 (fun _ _ _ _ _ h => h) (by kernel_rfl) (by decide) (by kernel_rfl) ⟨c1, r1⟩ ?_
        simp only [List.drop_succ_cons, List.drop_zero, List.take_succ_cons, List.take_zero]
        refine wpHeld_cons (.pointer (some ⟨gb, p + q, none⟩)) (by kernel_rfl) ?_ ?_
        · rintro w' ⟨s0, s1⟩
          try go_simp
        refine wpHeld_nil ?_
        go_simp
        refine wpAnyH_from 9 1 (fun _ _ _ _ _ h => h) (by kernel_rfl) (by decide) (by kernel_rfl) ⟨c1, r1⟩ ?_
        simp only [List.drop_succ_cons, List.drop_zero, List.take_succ_cons, List.take_zero]
        refine wpHeld_cons (.int .i64 Z) (by kernel_rfl) ?_ ?_
        · rintro w' ⟨s0, s1⟩
          try go_simp
        refine wpHeld_nil ?_
        go_simp
        refine wpAnyH_one (i := 8) (by kernel_rfl) rfl (by kernel_rfl) (fun K' hK' => ?_)
        go_simp
        refine hK' _ _ ⟨c1, r1⟩ ?_
        clear hK' K'
        refine wpAnyH_one (i := 10) (by kernel_rfl) rfl (by kernel_rfl) (fun K' hK' => ?_)
        go_simp
        refine (replace_any Y Z _).mono ?_
        rintro e W3 ⟨rfl, rfl⟩
        refine hK' _ _ ⟨c1, r1⟩ ?_
        clear hK' K'
        refine wpAnyH_one (i := 11) (by kernel_rfl) rfl (by kernel_rfl) (fun K' hK' => ?_)
        go_simp
        refine hK' _ _ ⟨c1, r1⟩ ?_
        clear hK' K'
        refine wpAnyH_one (i := 12) (by kernel_rfl) rfl (by kernel_rfl) (fun K' hK' => ?_)
        have HST := HS.out.1.step (updG_len _ _ _ _ _ _) hlo1 hlo2 (p + q) (Z)
        have hX5 := (Below.heap_setCell wr ⟨gb, p + q, none⟩ (.int .i64 (Z)) Bx (show Bx ≠ gb by omega)).trans HS.out.2.2.1
        have hC5 := HS.out.2.1.farI (X := gb) (i := p + q) (u := .int .i64 (Z)) (by omega)
        go_simp
        have hsz5 : (wr.setCell ⟨gb, p + q, none⟩ (.int .i64 (Z))).heap.size = wr.heap.size := World.size_setCell _ _ _
        generalize wr.setCell ⟨gb, p + q, none⟩ (.int .i64 (Z)) = W5 at *
        have hdr : Below W5.heap.size W5 W5.drew := (Below.refl _ _).drew
        have hV6 := HST.2.2.1.below hdr
        have hX6 := blk_drew hX5
        refine hK' _ _ ⟨blk_cell hV6.s1 0, blk_cell hX6 1⟩ ?_
        clear hK' K'
        refine wpAnyH_done (by kernel_rfl) ?_ _
        have hsu := HS.out.2.2.2.2.2.2.1
        rw [HNV.out] at hsu
        have HE := Lib.hid (show _ ∧ _ ∧ _ ∧ _ ∧ _ ∧ _ ∧ _ from ⟨hV6, hC5.below hdr (Nat.le_refl _), hX6, (HS.out.2.2.2.1.trans HST.1).trans (others_below hdr), kpEx_t (kpEx_t HS.out.2.2.2.2.1 HST.2.1) (KpEx.below _ hdr), (HST.2.2.2 _ HS.out.2.2.2.2.2.1).drew, hsu⟩)
        clear HST hX5 hC5 hV6 hX6 hsu hdr c0 c1 r1 r7 d0 e0 e1
        gi_wp2
        go_roundw
        case rel => exact ⟨q + 1, by omega, by go_num, by rw [← HE.out.2.2.2.2.2.2]; exact HE.out.1, HE.out.2.1, HE.out.2.2.1, HE.out.2.2.2.1, HE.out.2.2.2.2.1, by show W0.heap.size ≤ W5.heap.size; omega, HE.out.2.2.2.2.2.1⟩
        case measure => simp [intOf]; omega
  case done =>
    rintro D xs W hD hxs ⟨⟨hI, hsW⟩, hB⟩ hDf
    have hfin : stG l base F sn (ixs xs) = gvals l base F sn := stG_done HA.out.2.2.1.1 hxs
    rw [hfin] at hI
    have q1 := blk_cell hI.s1 0
    simp at q1
    have HI := Lib.hid (show _ ∧ _ from ⟨hI.own, hB⟩)
    clear hI hB hfin hxs
    rename_i K hK
    refine hK _ _ ?_
    go_wp2_with fail
    have hI2 := (HI.out.1.grownNC (grownBy_putObj' _ D (.deferred none)) (fun r e => by cases e; exact ⟨_, hDf, rfl⟩)).mono (show w.heap.size ≤ w.heap.size + 1 by omega)
    have hB2 := HI.out.2.trans (belowK_b (w := w) (Nat.le_refl _) _ D _ (.deferred none) (by omega) hDf rfl rfl)
    have HZ := Lib.hid (show _ ∧ _ from ⟨hI2, hB2⟩)
    clear hI2 hB2
    refine ⟨by simp, .inl ⟨_, _, rfl, run_takeDeferred hDf, ?_⟩⟩
    exact ⟨.slice av sn cv, by simp [results, Try.results21, go_sem], ⟨_, rfl, HZ.out.1⟩, HZ.out.2⟩
  case stop =>
    rintro D c pre W hD _ ⟨h, _⟩ _
    exact h.elim
end Go.Proofs.Ytmblkmllamccnaa
