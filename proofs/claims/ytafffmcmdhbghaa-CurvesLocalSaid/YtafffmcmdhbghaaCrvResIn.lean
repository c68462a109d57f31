/- The contract of curves.Resolve where all knots have samples (layer 11). -/
import Derived.Test.YtafffmcmdhbghaaCrvRes
import Derived.OwnWalkIn
namespace Go.Proofs.Ytafffmcmdhbghaa
open Go.RowKit Go.Shelf

attribute [local go_sem] Oper.semAt_some

abbrev ixk {n : Nat} (pre : List (Ixs n)) : List Nat := pre.map (·.1)
/-- What Resolve has gathered. -/
structure StR (X : Nat) (BB : Nat) (W : World) (x : List Kt) : Prop where
  bb : BB ≤ W.heap.size
  xb : X < BB
  sx : ∃ v, W.heap[X]? = some (.cells #[v] 22 (0, 0)) ∧ KsO W BB v x
theorem KsO.grown {W W' : World} {B : Nat} {v : Value} {x : List Kt} (h : KsO W B v x) {row : Option Nat} (hg : W.grownBy W' row) (hrow : ∀ r, row = some r → ∃ o, W.heap[r]? = some o ∧ o.isCells = false) : KsO W' B v x := by
  refine ⟨h.1, ?_⟩
  rcases h.2 with h0 | ⟨g, cap, cur, h1, h2, h3, h4⟩
  · exact .inl h0
  · refine .inr ⟨g, cap, cur, h1, h2, ?_, h4⟩
    have hlt := (Array.getElem?_eq_some_iff.1 h3).1
    refine (hg.block g hlt fun e => ?_).trans h3
    obtain ⟨o, ho, hc⟩ := hrow g e.symm
    rw [h3] at ho; cases ho; cases hc

theorem KsO.far {W : World} {X B : Nat} {v u : Value} {x : List Kt} (h : KsO W B v x) (hX : X < B) : KsO (W.setCell ⟨X, 0, none⟩ u) B v x := by
  refine ⟨h.1, ?_⟩
  rcases h.2 with h0 | ⟨g, cap, cur, h1, h2, h3, h4⟩
  · exact .inl h0
  · exact .inr ⟨g, cap, cur, h1, h2, (Below.heap_setCell _ _ _ _ (show g ≠ X by omega)).trans h3, h4⟩
theorem StR.push {X BB : Nat} {W w2 : World} {x : List Kt} {v v' : Value} {o : Kt} {tmp : Obj} (hbb : BB ≤ W.heap.size) (hxb : X < BB) (hX : W.heap[X]? = some (.cells #[v] 22 (0, 0))) (hv : KsO W BB v x) (hO : KsO w2 BB v' (x ++ [o])) (hB : Below BB (W.alloc tmp) w2) (hG : (W.alloc tmp).grownBy w2 v.ownBlock) :
    w2.heap[X]? = some (.cells #[v] 22 (0, 0)) ∧ StR X BB (w2.setCell ⟨X, 0, none⟩ v') (x ++ [o]) ∧ KeepsOthers W (w2.setCell ⟨X, 0, none⟩ v') ∧ KpEx (fun q => q = X ∨ BB ≤ q) W (w2.setCell ⟨X, 0, none⟩ v') ∧ (∀ a, Below X a W → Below X a (w2.setCell ⟨X, 0, none⟩ v')) := by
  have hs := hB.size
  simp only [World.size_alloc] at hs
  have hX2 : w2.heap[X]? = some (.cells #[v] 22 (0, 0)) := blk_below (blk_alloc hX tmp) hB hxb
  refine ⟨hX2, ⟨by rw [World.size_setCell]; omega, hxb, v', by have := cells_setK (i := 0) (v := v') hX2; simpa using this, ?_⟩, ?_, ?_, fun a ha => (((ha.alloc (by omega) tmp).trans (hB.mono (by omega))).setCell (p := ⟨X, 0, none⟩) (Nat.le_refl _) v')⟩
  · refine ⟨hO.1, ?_⟩
    rcases hO.2 with h0 | ⟨g, cap, cur, h1, h2, h3, h4⟩
    · exact .inl h0
    · exact .inr ⟨g, cap, cur, h1, h2, (Below.heap_setCell _ _ _ _ (show g ≠ X by omega)).trans h3, h4⟩
  · refine ((KeepsOthers.alloc W tmp).trans (KeepsOthers.of_grownBy hG fun j ob ej hj => ?_)).trans (KeepsOthers.setCell _ _ _)
    rcases hv.2 with ⟨h0, _⟩ | ⟨g, cap, cur, h1, h2, h3, h4⟩
    · rw [h0] at ej; cases ej
    · rw [h1] at ej; cases ej
      rw [blk_alloc h3 tmp] at hj; cases hj; rfl
  · refine ⟨by rw [World.size_setCell]; omega, fun k ob hk _ hn => ?_⟩
    have hn2 : k < BB ∧ k ≠ X := by
      rw [not_or] at hn
      exact ⟨by omega, hn.1⟩
    exact (Below.heap_setCell _ _ _ _ (show k ≠ X from hn2.2)).trans (blk_below (blk_alloc hk tmp) hB hn2.1)
section
variable {ops : Array Oper} {o : Oper} {rest : List Oper} {a : Act} {Q : Exit → Act → World → Prop} {w : World} {F : Fence} {n : Nat}
theorem wpListIn_append_K (hgd : o.guard = none) (s x : Operand) (ho : o.op = .call { callee := .builtin .append, args := #[s, x], argTypes := #[22, 22] })
    (B : Nat) (v : Value) (l : List Kt) (hs : a.eval s = v) (hown : KsO w B v l) (g : Nat) (m : Kt) (hx : a.eval x = .slice (some ⟨g, 0, none⟩) 1 1) (tb : TypeId) (fr : Nat × Nat)
    (hc : w.heap[g]? = some (.cells #[.int .i64 m.1, .int .i64 m.2.1, .int .i64 m.2.2.1, .int .i64 m.2.2.2.1, .int .i64 m.2.2.2.2] tb fr)) (hlen : l.length ≤ 1200000) (hB : B ≤ w.heap.size)
    (h : ∀ v' w', KsO w' B v' (l ++ [m]) → Below B w w' → w.grownBy w' v.ownBlock → wpListIn F n Try.prog ops Q rest (a.put o.dst v') w') : wpListIn F n Try.prog ops Q (o :: rest) a w := by
  obtain ⟨i0, hi, hz0, hz1, hz2⟩ := info_parts info_K
  refine wpListIn_append_own w hgd s x 22 ho B 43 i0 (.agg #[.int .i64 0, .int .i64 0, .int .i64 0, .int .i64 0, .int .i64 0]) 5 40 Try.underlying22 hi hz0 hz1 hz2 rfl (by decide) v l.length _ hs hown ⟨g, 0, none⟩ 1 1 (encK m) hx rfl ?_ ?_ (by unfold maxLen; omega) (by omega) hB ?_
  · exact fun j u hj => World.news_of_block hc j u (by simpa [encK] using hj)
  · intro u hu; exact encLK_cells [m] u (by rw [encLK_one]; exact hu)
  · intro v' w' h1 h2 _
    refine h v' w' ?_ ((Below.refl B w).grown h2 hB fun k hk => (World.ownsRow.lt hown k hk).1) h2
    unfold KsO
    rw [encLK_app, encLK_one, List.length_append]
    exact h1
end
theorem ixk_snoc {n : Nat} (y : List Kt) (pre : List (Ixs n)) (x : Ixs n) : stL y (ixk (pre ++ [x])) = stL y (ixk pre) ++ [nthK y x.1] := by simp [stL, ixk]
theorem stL_len {n : Nat} (y : List Kt) (pre : List (Ixs n)) : (stL y (ixk pre)).length = pre.length := by simp [stL, ixk]

set_option maxRecDepth 100000 in
set_option maxHeartbeats 8000000 in
theorem resolve_in (ma : Option Addr) (mb moff mn mcap : Nat) (m : List Tp) (a : Option Addr) (b off n cap : Nat) (l : List Kt) (w : World) (hT : Ts w ma mn mb moff m) (hmn : mn ≤ 9223372036854775807) (hmb : 0 < mn → ∃ c tb fr, w.heap[mb]? = some (.cells c tb fr)) (hK : Ks w a n b off l) (hn : n ≤ 9223372036854775807) (hnc : a = none → cap = 0)
    (hm : Map m) (hv : Lane 16777216 l) (hp : inPos m l l.length) :
    CallsIn Fence.wide 5 Try.prog 20 #[.slice ma mn mcap, .slice a n cap] w fun e w' => ResR m l w e w' ∧ Below w.heap.size w w' := by
  have hro : Fence.wide.round = none := rfl
  have HH := Lib.hid (show _ ∧ _ ∧ _ from ⟨hT, hmb, hK⟩)
  have hl := hK.1
  have hc := chk_yes hm
  have ev := laneB_t hv
  have hn2 : n ≤ 1024 := by rw [← hl]; exact hv.1
  have HV := Lib.hid (show _ ∧ _ ∧ _ from ⟨hm, hv, hp⟩)
  clear hT hmb hK hm hv hp
  unfold ResR
  have hB0 : Below w.heap.size w (w.alloc (.cells #[.slice none 0 0] 22)) := (Below.refl _ _).alloc (Nat.le_refl _) _
  refine callsIn_of_wp_marks Try.func20 rfl trivial ?_ hro
  simp only [Try.ntmps20, List.size_toArray, List.length_cons, List.length_nil, Nat.reduceAdd, Nat.reduceSub, Array.replicate_succ, Array.replicate_zero, List.push_toArray, List.append_toArray, List.nil_append, List.cons_append]
  gi_wp2
  refine ⟨trivial, ?_⟩
  refine (callsIn_wide.2 (tcheck_any ma mn mcap mb moff m _ (HH.out.1.grown hB0) hmn)).mono ?_; rintro e w1 ⟨rfl, hb⟩; rw [hc]
  have k1 := blk_below (blk_new w (.cells #[.slice none 0 0] 22)) hb (by simp)
  have hB1 := below_after hB0 hb hB0.size
  clear hc hb
  gi_wp2
  refine ⟨trivial, ?_⟩
  refine (callsIn_wide.2 (valid_any a b off n cap l _ _ (HH.out.2.2.grown hB1) hn)).mono ?_; rintro e w2 ⟨rfl, hb⟩; rw [ev]
  have k2 := blk_below k1 hb (Array.getElem?_eq_some_iff.1 k1).1
  have hB2 := below_after hB1 hb hB1.size
  clear hb k1 hB1 ev
  gi_wp2
  refine ⟨trivial, ?_⟩
  refine (callsIn_wide.2 (clone_any a b off n cap l _ (HH.out.2.2.grown hB2) (by omega) hnc)).mono ?_; rintro e w3 ⟨⟨v, rfl, hO⟩, hb⟩
  have k3 := blk_below k2 hb (Array.getElem?_eq_some_iff.1 k2).1
  have hB3 := below_after hB2 hb hB2.size
  have hs2 := (Array.getElem?_eq_some_iff.1 k2).1
  rw [← mvK_zero m l] at hO
  have HO := Lib.hid (show _ ∧ _ ∧ _ from ⟨hO, k3, hB3⟩)
  have hvs : ∃ g c, v = .slice g n c := by
    obtain ⟨g, _, c, hv, _⟩ := hO.s
    rw [mvK_len, hl] at hv
    exact ⟨g, c, hv⟩
  clear hb k2 hB2 hO k3 hB3
  obtain ⟨g, cc, rfl⟩ := hvs
  gi_wp2
  gi_loopw [5, 23] (fun ee i wr => ∃ k : Nat, k ≤ n ∧ i = .int .i64 k ∧ ee = .int .i64 0 ∧ inPos m l k ∧ KsO wr w2.heap.size (.slice g n cc) (mvK m l k) ∧ wr.heap[w.heap.size]? = some (.cells #[.slice none 0 0] 22 (0, 0)) ∧ Below w.heap.size w wr) (fun _ i _ => n - (intOf i).toNat)
  case atStart => exact ⟨0, Nat.zero_le _, rfl, rfl, fun i hi => by omega, HO.out.1, HO.out.2.1, HO.out.2.2⟩
  case round =>
    obtain ⟨k, hk, rfl, rfl, hpk, hO, kx, hB⟩ := hrel
    clear HO
    by_cases hlt : k < n
    case neg =>
      obtain rfl : k = n := by omega
      rw [show mvK m l k = mvL m l by rw [← hl, mvK_all]] at hO
      have HX := Lib.hid (show _ ∧ _ ∧ _ from ⟨hO, kx, hB⟩)
      clear hO kx hB hpk
      gi_wp2
      refine ⟨trivial, ?_⟩
      refine (staying_in _ _ _ _ _).mono ?_
      rintro e w' ⟨rfl, rfl⟩
      gi_wp2
      obtain ⟨W0, hW0⟩ : ∃ W0, W0 = wr.alloc (.cells #[.slice g k cc] 22) := ⟨_, rfl⟩
      have zW : W0.heap.size = wr.heap.size + 1 := by rw [hW0]; simp
      have hws := (Array.getElem?_eq_some_iff.1 HX.out.2.1).1
      have hBW : Below w.heap.size w W0 := by rw [hW0]; exact HX.out.2.2.alloc HX.out.2.2.size _
      have jB : W0.heap[wr.heap.size]? = some (.cells #[.slice g k cc] 22 (0, 0)) := by rw [hW0]; exact blk_new _ _
      have jX : W0.heap[w.heap.size]? = some (.cells #[.slice none 0 0] 22 (0, 0)) := by rw [hW0]; exact blk_alloc HX.out.2.1 _
      have hlX : (mvL m l).length = k := by rw [mvL_len, hl]
      obtain ⟨ga, gb, gc, hgv, hgM, hgb, _⟩ := HX.out.1.s
      rw [hlX] at hgv hgM hgb
      simp only [Value.slice.injEq, true_and] at hgv
      obtain ⟨rfl, rfl⟩ := hgv
      have jM : Ks W0 g k gb 0 (mvL m l) := by rw [hW0]; exact hgM.grown ((Below.refl _ _).alloc (Nat.le_refl _) _)
      have jb : 0 < k → ∃ c tb fr, W0.heap[gb]? = some (.cells c tb fr) := fun h => by
        obtain ⟨c, tb, fr, h1⟩ := hgb h
        exact ⟨c, tb, fr, by rw [hW0]; exact blk_alloc h1 _⟩
      have hgne : 0 < k → ¬ (gb = w.heap.size ∨ W0.heap.size ≤ gb) := fun h => by
        obtain ⟨hg1, hg2⟩ := hgM.2.1 h
        obtain ⟨q, c', hq, hqB⟩ := HX.out.1.inBlock hlX h
        simp only [Value.slice.injEq, true_and] at hq
        rw [hg1] at hq
        simp only [Option.some.injEq, Addr.mk.injEq, and_true] at hq
        have := hq.1
        omega
      obtain ⟨i0, hi0, hz0, hz1, hz2⟩ := info_parts info_K
      rw [← hW0]
      clear hW0 hgM hgb
      refine wpIn_rangeFunc_ownH rfl (by omega) (gf := 45) (lb := #[.pointer (some ⟨wr.heap.size, 0, none⟩)]) rfl trivial (enters_of Try.func45 (by kernel_rfl) rfl)
        (staying_stops _ (by omega) g wr.heap.size gb 0 k cc (mvL m l) (fun q => q = w.heap.size ∨ W0.heap.size ≤ q) hlX hn2 W0 (by omega) hgne jb jB jM)
        kpEx_t kpEx_b (Below.refl _ _) (fun _ => rfl)
        (fun pre W => StR w.heap.size W0.heap.size W (stL (mvL m l) (ixk pre)) ∧ Below w.heap.size w W)
        (fun c pre W => False ∧ Below w.heap.size w W)
        (OwnFrom.and (Own.from (fun s A B row hs hg hr => ⟨Nat.le_trans hs.bb hg.size, hs.xb, by obtain ⟨v, h1, h2⟩ := hs.sx; exact ⟨v, blk_kept h1 hg hr, h2.grown hg hr⟩⟩) _) (ownFrom_below (Nat.le_refl _) (by omega)))
        (fun c => OwnFrom.and (Own.from (fun s A B row hs hg hr => hs.elim) _) (ownFrom_below (Nat.le_refl _) (by omega)))
        ⟨⟨Nat.le_refl _, by omega, _, jX, KsO.nil _ _⟩, hBW⟩
        (fun x a' W => ∃ Bx, W0.heap.size ≤ Bx ∧ W.heap[Bx]? = some (.cells #[.int .i64 (nthK (mvL m l) x.1).1, .int .i64 (nthK (mvL m l) x.1).2.1, .int .i64 (nthK (mvL m l) x.1).2.2.1, .int .i64 (nthK (mvL m l) x.1).2.2.2.1, .int .i64 (nthK (mvL m l) x.1).2.2.2.2] 43 (0, 0)) ∧ a' = { tmps := List.toArray ((.slice ma mn mcap : Value) :: (.slice a k cap : Value) :: undef :: undef :: (.pointer (some ⟨w.heap.size, 0, none⟩) : Value) :: (.int .i64 0 : Value) :: (.int .i64 0 : Value) :: (.slice g k cc : Value) :: u8 :: (.pointer (some ⟨Bx, 0, none⟩) : Value) :: undef :: (.slice ma mn mcap : Value) :: (.int .i64 0 : Value) :: (.int .i64 0 : Value) :: (.bool false : Value) :: undef :: (.slice a k cap : Value) :: (.bool true : Value) :: (.bool false : Value) :: (.slice a k cap : Value) :: (.slice g k cc : Value) :: (.slice g k cc : Value) :: (.int .i64 k : Value) :: (.int .i64 k : Value) :: (.bool false : Value) :: u25 :: u26 :: u27 :: u28 :: u29 :: u30 :: u31 :: u32 :: u33 :: u34 :: u35 :: u36 :: u37 :: u38 :: u39 :: u40 :: u41 :: u42 :: u43 :: (.slice g k cc : Value) :: (.func (.func 45) #[] #[.pointer (some ⟨wr.heap.size, 0, none⟩)] : Value) :: (.agg #[.int .i64 (nthK (mvL m l) x.1).1, .int .i64 (nthK (mvL m l) x.1).2.1, .int .i64 (nthK (mvL m l) x.1).2.2.1, .int .i64 (nthK (mvL m l) x.1).2.2.2.1, .int .i64 (nthK (mvL m l) x.1).2.2.2.2] : Value) :: undef :: undef :: undef :: undef :: undef :: undef :: undef :: undef :: undef :: undef :: []), defers := [] })
        (fun x a' => Own.from (fun s A B row hs hg hr => by obtain ⟨Bx, h1, h2, h3⟩ := hs; exact ⟨Bx, h1, blk_kept h2 hg hr, h3⟩) _) ?assign ?body ?done ?stop
      case assign =>
        rintro lp pre x W K ⟨hI, hB⟩ hK
        simp only [encY]
        gi_wp2
        refine hK _ _ ((KeepsOthers.alloc _ _).from _) (KpEx.alloc _ _ _) ⟨⟨Nat.le_trans hI.bb (by simp), hI.xb, by obtain ⟨v, h1, h2⟩ := hI.sx; exact ⟨v, blk_alloc h1 _, h2.alloc _⟩⟩, hB.alloc hB.size _⟩ ⟨W.heap.size, hI.bb, blk_new W _, rfl⟩
      case body =>
        rintro lp pre x a' W _ _ ⟨hI, hB⟩ ⟨Bx, hBx, hXB, rfl⟩ hpl
        obtain ⟨v, hX, hv⟩ := hI.sx
        have bb := hI.bb
        have xb := hI.xb
        have hBxs := (Array.getElem?_eq_some_iff.1 hXB).1
        have hlx := stL_len (mvL m l) pre
        have hpl2 : pre.length ≤ 1024 := by omega
        have hen := ixk_snoc (mvL m l) pre x
        generalize stL (mvL m l) (ixk pre) = base at *
        have HEN := Lib.hid hen
        clear hen
        have b0 := blk_cell hX 0
        have x0 := blk_cell hXB 0
        have x1 := blk_cell hXB 1
        have x2 := blk_cell hXB 2
        have x3 := blk_cell hXB 3
        have x4 := blk_cell hXB 4
        simp at b0 x0 x1 x2 x3 x4
        have HB := Lib.hid (show _ ∧ _ ∧ _ ∧ _ from ⟨hX, hv, hB, hlx⟩)
        clear hX hv hB hI hlx HH HV HX
        gi_wp2_with (gi_at_builtin; refine wpListIn_append_K rfl _ _ rfl W0.heap.size v base rfl (HB.out.2.1.alloc _) W.heap.size (nthK (mvL m l) x.1) rfl 43 (0, 0) (blk_new _ _) (by rw [HB.out.2.2.2]; omega) (by simp; omega) ?_; intro v2 w2 hO hB2 hG; obtain ⟨ga2, _, gc2, rfl, _⟩ := hO.s; obtain ⟨p1, p2⟩ := StR.push bb xb HB.out.1 HB.out.2.1 hO hB2 hG; have HP := Lib.hid p2; have c0 := blk_cell p1 0; have f0 := blk_free p1 0; simp at c0 f0; clear hO hB2 hG p1 p2)
        have h := HP.out
        rw [List.length_append, List.length_singleton] at h
        exact ⟨h.2.1.from _, h.2.2.1, ⟨by show StR _ _ _ (stL (mvL m l) (ixk (pre ++ [x]))); rw [HEN.out]; exact h.1, h.2.2.2 _ HB.out.2.2.1⟩⟩
      case done =>
        rintro D xs W hD hxs ⟨hI, hB⟩ hDf
        have hst : stL (mvL m l) (ixk xs) = stays (mvL m l) := by
          unfold stays
          rw [hlX]
          exact congrArg (stL (mvL m l)) hxs
        obtain ⟨v, hX, hv⟩ := hI.sx
        rw [hst] at hv
        have hstl : (stays (mvL m l)).length ≤ 1024 := by
          unfold stays stL
          rw [List.length_map]
          refine Nat.le_trans (List.length_filter_le _ _) ?_
          rw [List.length_range, hlX]; omega
        obtain ⟨va, vb, vc, rfl, hsl, hsb, hnv, hlc⟩ := hv.s
        have er := resE_ok HV.out.1 HV.out.2.1 HV.out.2.2
        have HD := Lib.hid (show _ ∧ _ ∧ _ ∧ _ from ⟨hX, hv, hB, hDf⟩)
        have b0 := blk_cell hX 0
        simp at b0
        clear hX hv hB hI hst HH HV HX hxs hDf
        rename_i K hK hgz
        refine hK _ _ (wpIn_wide.2 ?_)
        clear hK hgz
        by_cases hcv : Curve (stays (mvL m l))
        · have ec := chkC_yes hcv
          rw [ec] at er
          go_wp2_with fail
          refine (ccheck_any va vb 0 _ vc _ W hsl (by omega) hnv hlc.1).mono ?_; rintro e W4 ⟨rfl, hb4⟩; rw [ec]
          have kx := blk_below HD.out.1 hb4 (Array.getElem?_eq_some_iff.1 HD.out.1).1
          have b1 := blk_cell kx 0; have f1 := blk_free kx 0
          simp at b1 f1
          have kd := (hb4.block D (Array.getElem?_eq_some_iff.1 HD.out.2.2.2).1).trans HD.out.2.2.2
          have HE := Lib.hid (show _ ∧ _ ∧ _ from ⟨kx, hb4, kd⟩)
          clear kx hb4 b0 kd
          go_wp2_with fail
          have hwd : D ≠ w.heap.size := by omega
          have kd2 := (Below.heap_setCell W4 ⟨w.heap.size, 0, none⟩ (.slice va (stays (mvL m l)).length vc) D hwd).trans HE.out.2.2
          have kx2 : (W4.setCell ⟨w.heap.size, 0, none⟩ (.slice va (stays (mvL m l)).length vc)).heap[w.heap.size]? = some (.cells #[.slice va (stays (mvL m l)).length vc] 22 (0, 0)) := by have := cells_setK (i := 0) (v := .slice va (stays (mvL m l)).length vc) HE.out.1; simpa using this
          refine ⟨by simp, .inl ⟨_, _, rfl, run_takeDeferred kd2, ?_⟩⟩
          have tp := blk_cell ((World.putObj_heap_other (o := .deferred none) (show w.heap.size ≠ D by omega)).trans kx2) 0
          simp at tp
          have hks := ((((HD.out.2.1.below HE.out.2.1 (Nat.le_refl _)).far (X := w.heap.size) (u := .slice va (stays (mvL m l)).length vc) (by omega)).grown (grownBy_putObj' _ D (.deferred none)) (fun r hr => by cases hr; exact ⟨_, kd2, rfl⟩))).mono (B' := w.heap.size) (by omega)
          refine ⟨.tuple #[.slice va (stays (mvL m l)).length vc, .int .i64 0], by simp [results, Try.results20, go_sem, tp], ?_⟩
          rw [er]
          have hws4 := (Array.getElem?_eq_some_iff.1 HD.out.1).1
          refine ⟨.inr ⟨rfl, hcv, _, rfl, hks⟩, ?_⟩
          exact (((HD.out.2.2.1.trans (HE.out.2.1.mono (by omega))).setCell (p := ⟨w.heap.size, 0, none⟩) (Nat.le_refl _) _)).trans (belowK_b (w := w) (Nat.le_refl _) _ D _ _ (by omega) kd2 rfl rfl)
        · have ec := chkC_no hcv
          rw [ec] at er
          go_wp2_with fail
          refine (ccheck_any va vb 0 _ vc _ W hsl (by omega) hnv hlc.1).mono ?_; rintro e W4 ⟨rfl, hb4⟩; rw [ec]
          have kx := blk_below HD.out.1 hb4 (Array.getElem?_eq_some_iff.1 HD.out.1).1
          have b1 := blk_cell kx 0; have f1 := blk_free kx 0
          simp at b1 f1
          have kd := (hb4.block D (Array.getElem?_eq_some_iff.1 HD.out.2.2.2).1).trans HD.out.2.2.2
          have HE := Lib.hid (show _ ∧ _ ∧ _ from ⟨kx, hb4, kd⟩)
          clear kx hb4 b0 kd
          go_wp2_with fail
          have hwd : D ≠ w.heap.size := by omega
          have kd2 := (Below.heap_setCell W4 ⟨w.heap.size, 0, none⟩ (.slice none 0 0) D hwd).trans HE.out.2.2
          have kx2 : (W4.setCell ⟨w.heap.size, 0, none⟩ (.slice none 0 0)).heap[w.heap.size]? = some (.cells #[.slice none 0 0] 22 (0, 0)) := by have := cells_setK (i := 0) (v := .slice none 0 0) HE.out.1; simpa using this
          refine ⟨by simp, .inl ⟨_, _, rfl, run_takeDeferred kd2, ?_⟩⟩
          have tp := blk_cell ((World.putObj_heap_other (o := .deferred none) (show w.heap.size ≠ D by omega)).trans kx2) 0
          simp at tp
          refine ⟨.tuple #[.slice none 0 0, .int .i64 110], by simp [results, Try.results20, go_sem, tp], ?_⟩
          rw [er]
          have hws4 := (Array.getElem?_eq_some_iff.1 HD.out.1).1
          refine ⟨.inl ⟨by decide, rfl⟩, ?_⟩
          exact (((HD.out.2.2.1.trans (HE.out.2.1.mono (by omega))).setCell (p := ⟨w.heap.size, 0, none⟩) (Nat.le_refl _) _)).trans (belowK_b (w := w) (Nat.le_refl _) _ D _ _ (by omega) kd2 rfl rfl)
      case stop =>
        rintro D c pre W hD _ ⟨hF, _⟩ _
        exact hF.elim
    obtain ⟨gg, c', hg, hgB⟩ := hO.inBlock (by rw [mvK_len, hl]) (by omega)
    simp only [Value.slice.injEq, true_and] at hg
    obtain ⟨rfl, rfl⟩ := hg
    obtain ⟨rfl, hbw⟩ := HH.out.2.2.2.1 (by omega)
    obtain ⟨c0, _, _, _, _⟩ := (HH.out.2.2.grown hB).2.2 k hlt
    have okk := (HV.out.2.1.2 k (by omega)).1
    have t0 := okk.1; have t1 := okk.2.1
    have i2 : (k : Int) < (n : Int) := by omega
    have uk : IntKind.i64.wrap ((k : Int) + 1) = (k : Int) + 1 := wrap_id (by omega)
    have eM : nthK (mvK m l k) k = nthK l k := by rw [mvK_nth (by omega), if_neg (by omega)]
    have hwx := (Array.getElem?_eq_some_iff.1 kx).1
    have HR := Lib.hid (show _ ∧ _ ∧ _ ∧ _ from ⟨hpk, hO, kx, hB⟩)
    clear hpk hO kx hB okk
    generalize ht : (nthK l k).1 = T at *
    have HT := Lib.hid ht
    clear ht
    have hln : (mvK m l k).length = n := by rw [mvK_len, hl]
    by_cases hs : smp m T ≤ 1099511627776
    · obtain ⟨s1, s2⟩ := s_ok HV.out.1 (tick := T) ⟨t0, t1⟩ hs
      have HS := Lib.hid (show _ ∧ _ ∧ _ from ⟨s1, s2, hs⟩)
      clear s1 s2 hs
      gi_wp2
      refine ⟨trivial, ?_⟩
      refine (callsIn_wide.2 (tsample_any ma mb moff mn mcap m T _ (HH.out.1.grown HR.out.2.2.2) hmn (blk_has2 HH.out.2.1 HR.out.2.2.2))).mono ?_; rintro e w5 ⟨rfl, hb5⟩; rw [HS.out.1, HS.out.2.1]
      have hO5 := HR.out.2.1.below hb5 (Nat.le_refl _); have c5 := (hO5.cellAt hln (k * 5) (by omega)).trans (encLK_get (mvK m l k) k (by omega)).1; have f5 := hO5.freeAt hln (k * 5); have HO5 := Lib.hid (show _ ∧ _ ∧ _ from ⟨hO5.stored1 hln k hlt (smp m T), blk_below HR.out.2.2.1 hb5 hwx, below_after HR.out.2.2.2 hb5 HR.out.2.2.2.size⟩); clear hO5 hb5
      gi_wp2
      go_roundw
      case rel => exact ⟨k + 1, by omega, by go_num, rfl, fun i hi => by
        by_cases e : i = k
        · subst e; rw [HT.out]; exact HS.out.2.2
        · exact HR.out.1 i (by omega), by
          have h := HO5.out.1
          rw [eM, ← HT.out] at h
          rw [← HT.out, ← mvK_succ (by omega)]; exact h, (Below.heap_setCell _ _ _ _ (by show w.heap.size ≠ gg; omega)).trans HO5.out.2.1, HO5.out.2.2.setCell (p := ⟨gg, k * 5, none⟩) (by show w.heap.size ≤ gg; omega) _⟩
      case measure => simp [intOf] <;> omega
    · exact absurd (HR.out.1) (fun _ => hs (by
        have h := HV.out.2.2 k (by omega)
        rw [HT.out] at h
        exact h))
end Go.Proofs.Ytafffmcmdhbghaa
