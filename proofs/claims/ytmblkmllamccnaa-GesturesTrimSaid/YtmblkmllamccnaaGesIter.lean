/- The iterator over the gestures that reach (layer 12). -/
import Derived.Test.YtmblkmllamccnaaGesCurve
import Derived.Test.YtmblkmllamccnaaHeldIn
import Derived.Test.YtmblkmllamccnaaSeq
import Derived.Deep.CutRange
namespace Go.Proofs.Ytmblkmllamccnaa
open Go.RowKit Go.Shelf

attribute [local go_sem] Oper.semAt_some

def endV (m : Int) : Value := if m = 2 then .func (.func 43) #[] #[] else .func (.func 41) #[] #[]
def chgV (m : Int) : Value := if m = 3 then .func (.func 44) #[] #[] else .func (.func 42) #[] #[]
def reV (g : Gt) (F N : Int) : Value := .agg #[endV g.m, chgV g.m, .int .i64 g.m, .int .i64 g.f, .int .i64 g.t, .int .i64 g.u, .slice g.ka g.kn g.kc, .int .i64 (max F g.f), .int .i64 (min (F + N) g.u)]
/-- The gesture reaches one of the samples. -/
def rch (l : List Gt) (F N : Int) (i : Nat) : Bool := decide (max F (nthG l i).f < min (F + N) (nthG l i).u)
abbrev Rx (l : List Gt) (F N : Int) (n : Nat) := { k : Nat // k < n ∧ rch l F N k = true }
def encR (l : List Gt) (F N : Int) {n : Nat} (x : Rx l F N n) : Array Value := #[reV (nthG l x.1) F N]
/-- Those of the first k that reach. -/
def firstR (l : List Gt) (F N : Int) {n : Nat} (pre : List (Rx l F N n)) (k : Nat) : Prop := pre.map (·.1) = (List.range k).filter (rch l F N)
theorem firstR_len {l : List Gt} {F N : Int} {n : Nat} {pre : List (Rx l F N n)} {k : Nat} (h : firstR l F N pre k) : pre.length ≤ k := by
  have := congrArg List.length h
  rw [List.length_map] at this
  rw [this]
  exact Nat.le_trans (List.length_filter_le _ _) (by simp)
theorem firstR_yes {l : List Gt} {F N : Int} {n : Nat} {pre : List (Rx l F N n)} {k : Nat} (h : firstR l F N pre k) (hk : k < n) (hr : rch l F N k = true) : firstR l F N (pre ++ [(⟨k, hk, hr⟩ : Rx l F N n)]) (k + 1) := by
  unfold firstR at *
  rw [List.map_append, h, List.range_succ, List.filter_append]
  simp [hr]
theorem firstR_no {l : List Gt} {F N : Int} {n : Nat} {pre : List (Rx l F N n)} {k : Nat} (h : firstR l F N pre k) (hr : rch l F N k = false) : firstR l F N pre (k + 1) := by
  unfold firstR at *
  rw [h, List.range_succ, List.filter_append]
  simp [hr]

set_option maxRecDepth 100000 in
set_option maxHeartbeats 8000000 in
theorem reaching1_in (m : Nat) (hm : 3 ≤ m) (lp Bf Bl Bn b off n cap : Nat) (a : Option Addr) (l : List Gt) (F N : Int) (own : Nat → Prop) (hok : Ges l)
    (hF1 : -9223372036854775808 ≤ F) (hF2 : F ≤ 9223372036854775807) (hN1 : 0 ≤ N) (hN2 : N ≤ 65536)
    (o1 : ¬ own Bf) (o2 : ¬ own Bl) (o3 : ¬ own Bn) (ob : 0 < n → ¬ own b) (J Jx : List (Rx l F N n) → World → Prop)
    (W : World) (hoW : ∀ k, W.heap.size ≤ k → ¬ own k) (hJ : AbidesFrom W.heap.size J)
    (hY : ∀ pre x W1, J pre W1 → pre.length < n → YieldAt Fence.wide (m - 1) Try.prog lp (encR l F N x) W1 fun e W' =>
      (e = .returned (.bool true) ∧ J (pre ++ [x]) W' ∧ KpEx own W1 W') ∨ (e = .returned (.bool false) ∧ Jx (pre ++ [x]) W'))
    (hbw : 0 < n → ∃ c tb fr, W.heap[b]? = some (.cells c tb fr)) (hBf : W.heap[Bf]? = some (.cells #[.int .i64 F] 3 (0, 0))) (hBl : W.heap[Bl]? = some (.cells #[.slice a n cap] 22 (0, 0))) (hBn : W.heap[Bn]? = some (.cells #[.int .i64 N] 3 (0, 0))) (hM : Gs W a n b off l) (h0 : J [] W) :
    CallsIn Fence.wide m Try.prog 32 #[.func (.yield lp) #[] #[], .pointer (some ⟨Bf, 0, none⟩), .pointer (some ⟨Bl, 0, none⟩), .pointer (some ⟨Bn, 0, none⟩)] W fun e W' => (∃ v, e = .returned v) ∧
      ((∃ ys, firstR l F N ys n ∧ J ys W') ∨ (∃ pre, (∃ k, k ≤ n ∧ firstR l F N pre k) ∧ Jx pre W')) := by
  have hl := hM.1
  have hn64 : n ≤ 64 := by rw [← hl]; exact hok.1
  have HOK := Lib.hid hok
  have HM := Lib.hid hM
  clear hok hM
  refine callsIn_of_wp Try.func32 rfl trivial ?_ rfl
  simp only [Try.ntmps32, List.size_toArray, List.length_cons, List.length_nil, Nat.reduceAdd, Nat.reduceSub, Array.replicate_succ, Array.replicate_zero, List.push_toArray, List.append_toArray, List.nil_append, List.cons_append]
  have c1 := blk_cell hBf 0; have c2 := blk_cell hBl 0; have c3 := blk_cell hBn 0
  simp at c1 c2 c3
  by_cases hfar : 1099511627776 < F
  · have hno : firstR l F N ([] : List (Rx l F N n)) n := by
      unfold firstR
      rw [List.filter_eq_nil_iff.2]
      · rfl
      intro i hi
      have hi := List.mem_range.1 hi
      have := (HOK.out.2 i (by omega)).2.2.2.2.1
      unfold rch
      simp; omega
    have HNO := Lib.hid hno
    clear hno
    gi_wp2
    refine bodyPost_ret (results_none rfl _ _ _) rfl ?_
    exact ⟨⟨_, rfl⟩, .inl ⟨[], HNO.out, h0⟩⟩
  gi_wp2
  refine ⟨trivial, fun _ => by omega, ?_⟩
  refine (callsIn_wide.2 (modes_any _)).mono ?_; rintro e w1 ⟨rfl, hb⟩
  unfold tabM
  have hJ1 := abides_below hJ h0 hb
  have hK1 := KpEx.below own hb
  have hs1 := hb.size
  have d1 := hK1.same _ _ hBf rfl o1; have d2 := hK1.same _ _ hBl rfl o2; have d3 := hK1.same _ _ hBn rfl o3
  have HB1 := Lib.hid hb
  clear hb
  have c1 := blk_cell d1 0; have c2 := blk_cell d2 0; have c3 := blk_cell d3 0
  simp at c1 c2 c3
  have HT0 := Lib.hid (show (w1.alloc (.cells tabM 68)).heap[w1.heap.size]? = some (.cells tabM 68 (0, 0)) ∧ Below W.heap.size W (w1.alloc (.cells tabM 68)) from ⟨blk_new _ _, HB1.out.alloc hs1 _⟩)
  unfold tabM at HT0
  have hl1 : Bl < w1.heap.size := (Array.getElem?_eq_some_iff.1 d2).1
  clear hJ1 hK1 d1 d2 d3
  gi_wp2
  gi_loopw [15] (fun i wr => ∃ (k : Nat) (pre : List (Rx l F N n)), k ≤ n ∧ i = .int .i64 k ∧ firstR l F N pre k ∧ J pre wr ∧ KpEx own W wr ∧ wr.heap[w1.heap.size]? = some (.cells tabM 68 (0, 0))) (fun i _ => n - (intOf i).toNat)
  case atStart => exact ⟨0, [], Nat.zero_le _, rfl, rfl, abides_below hJ h0 HT0.out.2, KpEx.below own HT0.out.2, HT0.out.1⟩
  case round =>
    obtain ⟨k, pre, hk, rfl, hpre, hJr, hKr, hT⟩ := hrel
    clear HT0 c1 c2 c3
    have d1 := hKr.same _ _ hBf rfl o1; have d2 := hKr.same _ _ hBl rfl o2; have d3 := hKr.same _ _ hBn rfl o3
    have c1 := blk_cell d1 0; have c2 := blk_cell d2 0; have c3 := blk_cell d3 0
    simp at c1 c2 c3
    have HP := Lib.hid hpre; clear hpre
    by_cases hlt : k < n
    case neg =>
      obtain rfl : k = n := by omega
      gi_wp2
      go_end0
      exact ⟨⟨_, rfl⟩, .inl ⟨pre, HP.out, hJr⟩⟩
    obtain ⟨rfl, hbw2⟩ := HM.out.2.1 (by omega)
    obtain ⟨cb, tb, fr, hbl⟩ := hbw (by omega)
    have kb := hKr.same _ _ hbl rfl (ob (by omega))
    have hcell : ∀ o, wr.cell? ⟨b, o, none⟩ = W.cell? ⟨b, o, none⟩ := fun o => by rw [blk_cell kb o, blk_cell hbl o]
    obtain ⟨⟨e0, e1, e2, e3, e4⟩, hGK⟩ := HM.out.2.2 k hlt
    rw [← hcell] at e0 e1 e2 e3 e4
    have hbr : b < wr.heap.size := (Array.getElem?_eq_some_iff.1 kb).1
    have hTr : w1.heap.size < wr.heap.size := (Array.getElem?_eq_some_iff.1 hT).1
    have hfr : Bf < wr.heap.size := (Array.getElem?_eq_some_iff.1 d1).1
    have hnr : Bn < wr.heap.size := (Array.getElem?_eq_some_iff.1 d3).1
    have hP := firstR_len HP.out
    have hg := HOK.out.2 k (by omega)
    have hrt := fun h => firstR_yes HP.out hlt h
    have hrf := fun h => firstR_no HP.out h
    have hER : ∀ h, encR l F N (⟨k, hlt, h⟩ : Rx l F N n) = #[reV (nthG l k) F N] := fun _ => rfl
    have hrb : rch l F N k = decide (max F (nthG l k).f < min (F + N) (nthG l k).u) := rfl
    generalize nthG l k = g at *
    obtain ⟨mm, f, t, u, ka, kn, kc, kb', ko, ks⟩ := g
    obtain ⟨⟨h1, h2⟩, h3, h4, h5, h6, h7, h8, h9⟩ := hg
    dsimp only at e0 e1 e2 e3 e4 h1 h2 h3 h4 h5 h6 h7 hrb
    have HG := Lib.hid (show _ ∧ _ ∧ _ ∧ _ ∧ _ from ⟨hrt, hrf, hER, hrb, hGK⟩)
    clear hrt hrf hER hrb hGK hcell kb h9
    have hmm : mm = 1 ∨ mm = 2 ∨ mm = 3 := by omega
    have t0 := blk_cell hT 2; have t1 := blk_cell hT 3; have t2 := blk_cell hT 4; have t3 := blk_cell hT 5; have t4 := blk_cell hT 6; have t5 := blk_cell hT 7
    unfold tabM at t0 t1 t2 t3 t4 t5
    simp at t0 t1 t2 t3 t4 t5
    rcases hmm with rfl | rfl | rfl
    · obtain rfl : t = u := by omega
      gi_wp2
      have kG := blk_alloc (blk_new wr (.cells #[.int .i64 1, .int .i64 f, .int .i64 t, .int .i64 t, .slice ka kn kc] 38)) (.cells #[.func (.func 41) #[] #[], .func (.func 42) #[] #[]] 60)
      have kM := blk_new (wr.alloc (.cells #[.int .i64 1, .int .i64 f, .int .i64 t, .int .i64 t, .slice ka kn kc] 38)) (.cells #[.func (.func 41) #[] #[], .func (.func 42) #[] #[]] 60)
      rw [World.size_alloc] at kM
      have kF := blk_alloc (blk_alloc d1 (.cells #[.int .i64 1, .int .i64 f, .int .i64 t, .int .i64 t, .slice ka kn kc] 38)) (.cells #[.func (.func 41) #[] #[], .func (.func 42) #[] #[]] 60)
      have kN := blk_alloc (blk_alloc d3 (.cells #[.int .i64 1, .int .i64 f, .int .i64 t, .int .i64 t, .slice ka kn kc] 38)) (.cells #[.func (.func 41) #[] #[], .func (.func 42) #[] #[]] 60)
      have kT := blk_alloc (blk_alloc hT (.cells #[.int .i64 1, .int .i64 f, .int .i64 t, .int .i64 t, .slice ka kn kc] 38)) (.cells #[.func (.func 41) #[] #[], .func (.func 42) #[] #[]] 60)
      have hBB : Below wr.heap.size wr ((wr.alloc (.cells #[.int .i64 1, .int .i64 f, .int .i64 t, .int .i64 t, .slice ka kn kc] 38)).alloc (.cells #[.func (.func 41) #[] #[], .func (.func 42) #[] #[]] 60)) := ((Below.refl _ _).alloc (Nat.le_refl _) _).alloc (by simp) _
      have hsB : ((wr.alloc (.cells #[.int .i64 1, .int .i64 f, .int .i64 t, .int .i64 t, .slice ka kn kc] 38)).alloc (.cells #[.func (.func 41) #[] #[], .func (.func 42) #[] #[]] 60)).heap.size = wr.heap.size + 1 + 1 := by simp
      generalize (wr.alloc (.cells #[.int .i64 1, .int .i64 f, .int .i64 t, .int .i64 t, .slice ka kn kc] 38)).alloc (.cells #[.func (.func 41) #[] #[], .func (.func 42) #[] #[]] 60) = wB at *
      have HCW : ∀ w', Below wB.heap.size wB w' → w'.cell? ⟨wr.heap.size, 0, none⟩ = some (.int .i64 1) ∧ w'.cell? ⟨wr.heap.size, 1, none⟩ = some (.int .i64 f) ∧ w'.cell? ⟨wr.heap.size, 2, none⟩ = some (.int .i64 t) ∧ w'.cell? ⟨wr.heap.size, 3, none⟩ = some (.int .i64 t) ∧ w'.cell? ⟨wr.heap.size, 4, none⟩ = some (.slice ka kn kc) ∧ w'.cell? ⟨wr.heap.size + 1, 0, none⟩ = some (.func (.func 41) #[] #[]) ∧ w'.cell? ⟨wr.heap.size + 1, 1, none⟩ = some (.func (.func 42) #[] #[]) ∧ w'.cell? ⟨Bf, 0, none⟩ = some (.int .i64 F) ∧ w'.cell? ⟨Bn, 0, none⟩ = some (.int .i64 N) := by
        intro w' hb
        have g1 := blk_below kG hb (by omega)
        have g2 := blk_below kM hb (by omega)
        exact ⟨blk_cell g1 0, blk_cell g1 1, blk_cell g1 2, blk_cell g1 3, blk_cell g1 4, blk_cell g2 0, blk_cell g2 1, blk_cell (blk_below kF hb (by omega)) 0, blk_cell (blk_below kN hb (by omega)) 0⟩
      have HCW := Lib.hid HCW
      have HBB := Lib.hid (show _ ∧ _ ∧ _ from ⟨hBB, kG, kT⟩)
      obtain ⟨mx, hmx⟩ : ∃ mx, mx = max F f := ⟨_, rfl⟩
      have HMX := Lib.hid hmx
      have hXY : (F < f ∧ mx = f) ∨ (F = f ∧ mx = F) ∨ (f < F ∧ mx = F) := by omega
      have HXY := Lib.hid hXY
      have HSB := Lib.hid hsB
      have hlB : wr.heap.size + 1 < wB.heap.size := by omega
      have huFN : -9223372036854775808 ≤ F + N ∧ F + N ≤ 9223372036854775807 := by omega
      clear hsB hmx hXY kG kM kF kN kT hT hBB d1 d2 d3 c1 c2 c3 t0 t1 t2 t3 t4 t5 e0 e1 e2 e3 e4
      obtain ⟨mn, hmn⟩ : ∃ mn, mn = min (F + N) t := ⟨_, rfl⟩
      have HMN := Lib.hid hmn
      have hMY : (F + N < t ∧ mn = F + N) ∨ (F + N = t ∧ mn = F + N) ∨ (t < F + N ∧ mn = t) := by omega
      have HMY := Lib.hid hMY
      clear hmn hMY
      refine wpIn_wide.2 ?_
      go_cut [9, 15] from 15 to 49 (fun r i wx => i = .int .i64 k ∧ ∃ R, r = .pointer (some ⟨R, 0, none⟩) ∧ wB.heap.size ≤ R ∧ wx.heap[R]? = some (.cells #[.func (.func 41) #[] #[], .func (.func 42) #[] #[], .int .i64 1, .int .i64 f, .int .i64 t, .int .i64 t, .slice ka kn kc, .int .i64 mx, .int .i64 mn] 62 (0, 0)) ∧ Below wB.heap.size wB wx)
      case rest =>
        obtain ⟨rfl, R, rfl, hRB, kR, hBc⟩ := hcut
        have hBr : Below wr.heap.size wr wc := HBB.out.1.trans (hBc.mono (by omega))
        have kTc := blk_below HBB.out.2.2 hBc (by omega)
        have r7 := blk_cell kR 7; have r8 := blk_cell kR 8
        have r0 := blk_cell kR 0; have r1 := blk_cell kR 1; have r2 := blk_cell kR 2; have r3 := blk_cell kR 3; have r4 := blk_cell kR 4; have r5 := blk_cell kR 5; have r6 := blk_cell kR 6
        simp at r0 r1 r2 r3 r4 r5 r6 r7 r8
        have HC := Lib.hid (show _ ∧ _ ∧ _ ∧ _ from ⟨hRB, kR, hBr, kTc⟩)
        have hPk : pre.length < n := by omega
        clear hRB kR hBc hBr kTc
        by_cases hre : mx < mn
        · have hrt : rch l F N k = true := by rw [HG.out.2.2.2.1, ← HMX.out, ← HMN.out]; simpa using hre
          have HF := Lib.hid (HG.out.1 hrt)
          obtain ⟨fn, tmps, assign, bdy, hy, hR⟩ := hY pre ⟨k, hlt, hrt⟩ wc (abides_below hJ hJr HC.out.2.2.1) hPk
          have E : encR l F N (⟨k, hlt, hrt⟩ : Rx l F N n) = #[.agg #[.func (.func 41) #[] #[], .func (.func 42) #[] #[], .int .i64 1, .int .i64 f, .int .i64 t, .int .i64 t, .slice ka kn kc, .int .i64 mx, .int .i64 mn]] := by
            rw [HG.out.2.2.1 hrt]
            unfold reV endV chgV
            dsimp only
            rw [← HMX.out, ← HMN.out]
            rfl
          rw [E] at hy
          clear E
          gi_wp2
          refine ⟨fun _ => by omega, hR.mono ?_⟩
          clear hy hR r0 r1 r2 r3 r4 r5 r6 r7 r8
          rintro e W3 (⟨rfl, hJ3, hk3⟩ | ⟨rfl, hJx3⟩)
          · gi_wp2
            go_roundw
            case rel => exact ⟨k + 1, pre ++ [⟨k, hlt, hrt⟩], by omega, by go_num, HF.out, hJ3, kpEx_t (kpEx_t hKr (KpEx.below own HC.out.2.2.1)) hk3, hk3.same _ _ HC.out.2.2.2 rfl (hoW _ hs1)⟩
            case measure => simp [intOf]; omega
          · gi_wp2
            refine bodyPost_ret (results_none rfl _ _ _) rfl ?_
            exact ⟨⟨_, rfl⟩, .inr ⟨pre ++ [⟨k, hlt, hrt⟩], ⟨k + 1, by omega, HF.out⟩, hJx3⟩⟩
        · have hrf : rch l F N k = false := by rw [HG.out.2.2.2.1, ← HMX.out, ← HMN.out]; simpa using hre
          have HF := Lib.hid (HG.out.2.1 hrf)
          clear hrf
          gi_wp2
          refine ⟨fun _ h => (by cases h), ?_⟩
          gi_wp2
          go_roundw
          case rel => exact ⟨k + 1, pre, by omega, by go_num, HF.out, abides_below hJ hJr HC.out.2.2.1, kpEx_t hKr (KpEx.below own HC.out.2.2.1), HC.out.2.2.2⟩
          case measure => simp [intOf]; omega
      refine wp_region_from 0 12 (fun w' : World => Below wB.heap.size wB w') (by kernel_rfl) (by kernel_rfl) (by decide) (by kernel_rfl) ((Below.refl _ _).drew) ?_
      simp only [List.drop_zero, List.take_succ_cons, List.take_zero]
      refine wpHeld_cons (.agg #[.func (.func 41) #[] #[], .func (.func 42) #[] #[]]) (by kernel_rfl) ?_ ?_
      · intro w' s
        obtain ⟨x0, x1, x2, x3, x4, y0, y1, f0, n0⟩ := HCW.out w' s
        try go_simp
      refine wpHeld_cons (.agg #[.int .i64 1, .int .i64 f, .int .i64 t, .int .i64 t, .slice ka kn kc]) (by kernel_rfl) ?_ ?_
      · intro w' s
        obtain ⟨x0, x1, x2, x3, x4, y0, y1, f0, n0⟩ := HCW.out w' s
        try go_simp
      refine wpHeld_cons (.int .i64 F) (by kernel_rfl) ?_ ?_
      · intro w' s
        obtain ⟨x0, x1, x2, x3, x4, y0, y1, f0, n0⟩ := HCW.out w' s
        try go_simp
      refine wpHeld_cons (.pointer (some ⟨wr.heap.size, 1, none⟩)) (by kernel_rfl) ?_ ?_
      · intro w' s
        obtain ⟨x0, x1, x2, x3, x4, y0, y1, f0, n0⟩ := HCW.out w' s
        try go_simp
      refine wpHeld_cons (.int .i64 f) (by kernel_rfl) ?_ ?_
      · intro w' s
        obtain ⟨x0, x1, x2, x3, x4, y0, y1, f0, n0⟩ := HCW.out w' s
        try go_simp
      refine wpHeld_cons (.int .i64 mx) (by kernel_rfl) ?_ ?_
      · intro w' s
        obtain ⟨x0, x1, x2, x3, x4, y0, y1, f0, n0⟩ := HCW.out w' s
        rcases HXY.out with ⟨q1, e1⟩ | ⟨e0, e1⟩ | ⟨q1, e1⟩
        · subst e1
          have q2 : ¬ mx ≤ F := by omega
          have q3 : F ≤ mx := by omega
          try go_simp
        · subst e0 e1
          try go_simp
        · subst e1
          have q2 : ¬ mx ≤ f := by omega
          have q3 : f ≤ mx := by omega
          try go_simp
          try (intro h; omega)
      refine wpHeld_cons (.int .i64 F) (by kernel_rfl) ?_ ?_
      · intro w' s
        obtain ⟨x0, x1, x2, x3, x4, y0, y1, f0, n0⟩ := HCW.out w' s
        try go_simp
      refine wpHeld_cons (.int .i64 N) (by kernel_rfl) ?_ ?_
      · intro w' s
        obtain ⟨x0, x1, x2, x3, x4, y0, y1, f0, n0⟩ := HCW.out w' s
        try go_simp
      refine wpHeld_cons (.int .i64 (F + N)) (by kernel_rfl) ?_ ?_
      · intro w' s
        obtain ⟨x0, x1, x2, x3, x4, y0, y1, f0, n0⟩ := HCW.out w' s
        have u1 : IntKind.i64.wrap (F + N) = F + N := wrap_id huFN
        try go_simp
      refine wpHeld_cons (.pointer (some ⟨wr.heap.size + 1, 0, none⟩)) (by kernel_rfl) ?_ ?_
      · intro w' s
        obtain ⟨x0, x1, x2, x3, x4, y0, y1, f0, n0⟩ := HCW.out w' s
        try go_simp
      refine wpHeld_cons (.func (.func 41) #[] #[]) (by kernel_rfl) ?_ ?_
      · intro w' s
        obtain ⟨x0, x1, x2, x3, x4, y0, y1, f0, n0⟩ := HCW.out w' s
        try go_simp
      refine wpHeld_cons (.agg #[.int .i64 1, .int .i64 f, .int .i64 t, .int .i64 t, .slice ka kn kc]) (by kernel_rfl) ?_ ?_
      · intro w' s
        obtain ⟨x0, x1, x2, x3, x4, y0, y1, f0, n0⟩ := HCW.out w' s
        try go_simp
      refine wpHeld_nil ?_
      go_simp
      refine wpAnyH_two (i := 12) (j := 15) (by kernel_rfl) rfl rfl (by kernel_rfl) (by kernel_rfl) (fun K' hK' => ?_) (fun K' hK' => ?_)
      · go_simp
        refine (to_any ⟨1, f, t, t, ka, kn, kc, kb', ko, ks⟩ _).mono ?_
        rintro e W3 ⟨rfl, hb3⟩
        replace hb3 : Below wB.heap.size wB W3 := (Below.refl _ _).drew.trans hb3
        refine hK' _ _ hb3 ?_
        clear hK' K'
        refine wpAnyH_from 13 2 (fun _ _ _ _ _ h => h) (by kernel_rfl) (by decide) (by kernel_rfl) hb3 ?_
        simp only [List.drop_succ_cons, List.drop_zero, List.take_succ_cons, List.take_zero]
        refine wpHeld_cons (.int .i64 mn) (by kernel_rfl) ?_ ?_
        · intro w' s
          rcases HMY.out with ⟨q1, e1⟩ | ⟨q1, e1⟩ | ⟨q1, e1⟩
          · rw [e1]
            have q2 : F + N ≤ t := by omega
            have q3 : ¬ t ≤ F + N := by omega
            clear e1
            try go_simp
            try (intro h; omega)
          · rw [e1]
            have q2 : F + N ≤ t := by omega
            have q3 : t ≤ F + N := by omega
            clear e1
            try go_simp
            try (first | (intro h; omega) | omega)
          · rw [e1]
            have q2 : ¬ F + N ≤ t := by omega
            have q3 : t ≤ F + N := by omega
            clear e1
            try go_simp
            try (intro h; omega)
        refine wpHeld_cons (.agg #[.func (.func 41) #[] #[], .func (.func 42) #[] #[], .int .i64 1, .int .i64 f, .int .i64 t, .int .i64 t, .slice ka kn kc, .int .i64 mx, .int .i64 mn]) (by kernel_rfl) ?_ ?_
        · intro w' s
          try go_simp
        refine wpHeld_nil ?_
        go_simp
        refine wpAnyH_one (i := 15) (by kernel_rfl) rfl (by kernel_rfl) (fun K' hK' => ?_)
        go_simp
        refine hK' _ _ (hb3.alloc hb3.size _) ?_
        clear hK' K'
        refine wpAnyH_one (i := 16) (by kernel_rfl) rfl (by kernel_rfl) (fun K' hK' => ?_)
        go_simp
        refine hK' _ _ (hb3.alloc hb3.size _) ?_
        clear hK' K'
        refine wpAnyH_done (by kernel_rfl) ?_ _
        refine NoPanic.normal ?_
        go_wp2_with fail
        go_meet
        case rel => exact ⟨rfl, _, rfl, hb3.size, blk_new _ _, hb3.alloc hb3.size _⟩
      · go_simp
        have hb2 : Below wB.heap.size wB (wB.alloc (.cells #[.nilFunc, .nilFunc, .int .i64 0, .int .i64 0, .int .i64 0, .int .i64 0, .slice none 0 0, .int .i64 0, .int .i64 0] 62)) := (Below.refl _ _).alloc (Nat.le_refl _) _
        have k9 := blk_new wB (.cells #[.nilFunc, .nilFunc, .int .i64 0, .int .i64 0, .int .i64 0, .int .i64 0, .slice none 0 0, .int .i64 0, .int .i64 0] 62)
        refine hK' _ _ hb2.drew ?_
        clear hK' K'
        refine wpAnyH_one (i := 12) (by kernel_rfl) rfl (by kernel_rfl) (fun K' hK' => ?_)
        go_simp
        refine (to_any ⟨1, f, t, t, ka, kn, kc, kb', ko, ks⟩ _).mono ?_
        rintro e W3 ⟨rfl, hb3⟩
        have hb4 : Below (wB.alloc (.cells #[.nilFunc, .nilFunc, .int .i64 0, .int .i64 0, .int .i64 0, .int .i64 0, .slice none 0 0, .int .i64 0, .int .i64 0] 62)).heap.size (wB.alloc (.cells #[.nilFunc, .nilFunc, .int .i64 0, .int .i64 0, .int .i64 0, .int .i64 0, .slice none 0 0, .int .i64 0, .int .i64 0] 62)) W3 := (Below.refl _ _).drew.trans hb3
        have k8 := blk_below k9 hb4 (by simp)
        clear hb3
        have hb3 : Below wB.heap.size wB W3 := hb2.trans (hb4.mono (by simp))
        clear hb4
        refine hK' _ _ hb3 ?_
        clear hK' K' k9 hb2
        refine wpAnyH_from 13 2 (fun _ _ _ _ _ h => h) (by kernel_rfl) (by decide) (by kernel_rfl) hb3 ?_
        simp only [List.drop_succ_cons, List.drop_zero, List.take_succ_cons, List.take_zero]
        refine wpHeld_cons (.int .i64 mn) (by kernel_rfl) ?_ ?_
        · intro w' s
          rcases HMY.out with ⟨q1, e1⟩ | ⟨q1, e1⟩ | ⟨q1, e1⟩
          · rw [e1]
            have q2 : F + N ≤ t := by omega
            have q3 : ¬ t ≤ F + N := by omega
            clear e1
            try go_simp
            try (intro h; omega)
          · rw [e1]
            have q2 : F + N ≤ t := by omega
            have q3 : t ≤ F + N := by omega
            clear e1
            try go_simp
            try (first | (intro h; omega) | omega)
          · rw [e1]
            have q2 : ¬ F + N ≤ t := by omega
            have q3 : t ≤ F + N := by omega
            clear e1
            try go_simp
            try (intro h; omega)
        refine wpHeld_cons (.agg #[.func (.func 41) #[] #[], .func (.func 42) #[] #[], .int .i64 1, .int .i64 f, .int .i64 t, .int .i64 t, .slice ka kn kc, .int .i64 mx, .int .i64 mn]) (by kernel_rfl) ?_ ?_
        · intro w' s
          try go_simp
        refine wpHeld_nil ?_
        go_simp
        have y0 := blk_cell k8 0; have z0 := blk_free k8 0
        have y1 := blk_cell k8 1; have z1 := blk_free k8 1
        have y2 := blk_cell k8 2; have z2 := blk_free k8 2
        have y3 := blk_cell k8 3; have z3 := blk_free k8 3
        have y4 := blk_cell k8 4; have z4 := blk_free k8 4
        have y5 := blk_cell k8 5; have z5 := blk_free k8 5
        have y6 := blk_cell k8 6; have z6 := blk_free k8 6
        have y7 := blk_cell k8 7; have z7 := blk_free k8 7
        have y8 := blk_cell k8 8; have z8 := blk_free k8 8
        simp at y0 y1 y2 y3 y4 y5 y6 y7 y8
        refine wpAnyH_one (i := 16) (by kernel_rfl) rfl (by kernel_rfl) (fun K' hK' => ?_)
        go_simp
        have s0 := cells_setK (i := 0) (v := .func (.func 41) #[] #[]) k8
        have s1 := cells_setK (i := 1) (v := .func (.func 42) #[] #[]) s0
        have s2 := cells_setK (i := 2) (v := .int .i64 1) s1
        have s3 := cells_setK (i := 3) (v := .int .i64 f) s2
        have s4 := cells_setK (i := 4) (v := .int .i64 t) s3
        have s5 := cells_setK (i := 5) (v := .int .i64 t) s4
        have s6 := cells_setK (i := 6) (v := .slice ka kn kc) s5
        have s7 := cells_setK (i := 7) (v := .int .i64 mx) s6
        have s8 := cells_setK (i := 8) (v := .int .i64 mn) s7
        simp at s8
        have t0 := hb3.setCell (p := ⟨wB.heap.size, 0, none⟩) (Nat.le_refl _) (.func (.func 41) #[] #[])
        have t1 := t0.setCell (p := ⟨wB.heap.size, 1, none⟩) (Nat.le_refl _) (.func (.func 42) #[] #[])
        have t2 := t1.setCell (p := ⟨wB.heap.size, 2, none⟩) (Nat.le_refl _) (.int .i64 1)
        have t3 := t2.setCell (p := ⟨wB.heap.size, 3, none⟩) (Nat.le_refl _) (.int .i64 f)
        have t4 := t3.setCell (p := ⟨wB.heap.size, 4, none⟩) (Nat.le_refl _) (.int .i64 t)
        have t5 := t4.setCell (p := ⟨wB.heap.size, 5, none⟩) (Nat.le_refl _) (.int .i64 t)
        have t6 := t5.setCell (p := ⟨wB.heap.size, 6, none⟩) (Nat.le_refl _) (.slice ka kn kc)
        have t7 := t6.setCell (p := ⟨wB.heap.size, 7, none⟩) (Nat.le_refl _) (.int .i64 mx)
        have t8 := t7.setCell (p := ⟨wB.heap.size, 8, none⟩) (Nat.le_refl _) (.int .i64 mn)
        refine hK' _ _ t8 ?_
        clear hK' K'
        refine wpAnyH_done (by kernel_rfl) ?_ _
        refine NoPanic.normal ?_
        have HS := Lib.hid (show _ ∧ _ from ⟨s8, t8⟩)
        clear s0 s1 s2 s3 s4 s5 s6 s7 s8 t0 t1 t2 t3 t4 t5 t6 t7 t8 y0 z0 y1 z1 y2 z2 y3 z3 y4 z4 y5 z5 y6 z6 y7 z7 y8 z8 k8
        go_wp2_with fail
        go_meet
        case rel => exact ⟨rfl, _, rfl, Nat.le_refl _, HS.out.1, HS.out.2⟩
    · gi_wp2
      have kG := blk_alloc (blk_new wr (.cells #[.int .i64 2, .int .i64 f, .int .i64 t, .int .i64 u, .slice ka kn kc] 38)) (.cells #[.func (.func 43) #[] #[], .func (.func 42) #[] #[]] 60)
      have kM := blk_new (wr.alloc (.cells #[.int .i64 2, .int .i64 f, .int .i64 t, .int .i64 u, .slice ka kn kc] 38)) (.cells #[.func (.func 43) #[] #[], .func (.func 42) #[] #[]] 60)
      rw [World.size_alloc] at kM
      have kF := blk_alloc (blk_alloc d1 (.cells #[.int .i64 2, .int .i64 f, .int .i64 t, .int .i64 u, .slice ka kn kc] 38)) (.cells #[.func (.func 43) #[] #[], .func (.func 42) #[] #[]] 60)
      have kN := blk_alloc (blk_alloc d3 (.cells #[.int .i64 2, .int .i64 f, .int .i64 t, .int .i64 u, .slice ka kn kc] 38)) (.cells #[.func (.func 43) #[] #[], .func (.func 42) #[] #[]] 60)
      have kT := blk_alloc (blk_alloc hT (.cells #[.int .i64 2, .int .i64 f, .int .i64 t, .int .i64 u, .slice ka kn kc] 38)) (.cells #[.func (.func 43) #[] #[], .func (.func 42) #[] #[]] 60)
      have hBB : Below wr.heap.size wr ((wr.alloc (.cells #[.int .i64 2, .int .i64 f, .int .i64 t, .int .i64 u, .slice ka kn kc] 38)).alloc (.cells #[.func (.func 43) #[] #[], .func (.func 42) #[] #[]] 60)) := ((Below.refl _ _).alloc (Nat.le_refl _) _).alloc (by simp) _
      have hsB : ((wr.alloc (.cells #[.int .i64 2, .int .i64 f, .int .i64 t, .int .i64 u, .slice ka kn kc] 38)).alloc (.cells #[.func (.func 43) #[] #[], .func (.func 42) #[] #[]] 60)).heap.size = wr.heap.size + 1 + 1 := by simp
      generalize (wr.alloc (.cells #[.int .i64 2, .int .i64 f, .int .i64 t, .int .i64 u, .slice ka kn kc] 38)).alloc (.cells #[.func (.func 43) #[] #[], .func (.func 42) #[] #[]] 60) = wB at *
      have HCW : ∀ w', Below wB.heap.size wB w' → w'.cell? ⟨wr.heap.size, 0, none⟩ = some (.int .i64 2) ∧ w'.cell? ⟨wr.heap.size, 1, none⟩ = some (.int .i64 f) ∧ w'.cell? ⟨wr.heap.size, 2, none⟩ = some (.int .i64 t) ∧ w'.cell? ⟨wr.heap.size, 3, none⟩ = some (.int .i64 u) ∧ w'.cell? ⟨wr.heap.size, 4, none⟩ = some (.slice ka kn kc) ∧ w'.cell? ⟨wr.heap.size + 1, 0, none⟩ = some (.func (.func 43) #[] #[]) ∧ w'.cell? ⟨wr.heap.size + 1, 1, none⟩ = some (.func (.func 42) #[] #[]) ∧ w'.cell? ⟨Bf, 0, none⟩ = some (.int .i64 F) ∧ w'.cell? ⟨Bn, 0, none⟩ = some (.int .i64 N) := by
        intro w' hb
        have g1 := blk_below kG hb (by omega)
        have g2 := blk_below kM hb (by omega)
        exact ⟨blk_cell g1 0, blk_cell g1 1, blk_cell g1 2, blk_cell g1 3, blk_cell g1 4, blk_cell g2 0, blk_cell g2 1, blk_cell (blk_below kF hb (by omega)) 0, blk_cell (blk_below kN hb (by omega)) 0⟩
      have HCW := Lib.hid HCW
      have HBB := Lib.hid (show _ ∧ _ ∧ _ from ⟨hBB, kG, kT⟩)
      obtain ⟨mx, hmx⟩ : ∃ mx, mx = max F f := ⟨_, rfl⟩
      have HMX := Lib.hid hmx
      have hXY : (F < f ∧ mx = f) ∨ (F = f ∧ mx = F) ∨ (f < F ∧ mx = F) := by omega
      have HXY := Lib.hid hXY
      have HSB := Lib.hid hsB
      have hlB : wr.heap.size + 1 < wB.heap.size := by omega
      have huFN : -9223372036854775808 ≤ F + N ∧ F + N ≤ 9223372036854775807 := by omega
      clear hsB hmx hXY kG kM kF kN kT hT hBB d1 d2 d3 c1 c2 c3 t0 t1 t2 t3 t4 t5 e0 e1 e2 e3 e4
      obtain ⟨mn, hmn⟩ : ∃ mn, mn = min (F + N) u := ⟨_, rfl⟩
      have HMN := Lib.hid hmn
      have hMY : (F + N < u ∧ mn = F + N) ∨ (F + N = u ∧ mn = F + N) ∨ (u < F + N ∧ mn = u) := by omega
      have HMY := Lib.hid hMY
      clear hmn hMY
      refine wpIn_wide.2 ?_
      go_cut [9, 15] from 15 to 49 (fun r i wx => i = .int .i64 k ∧ ∃ R, r = .pointer (some ⟨R, 0, none⟩) ∧ wB.heap.size ≤ R ∧ wx.heap[R]? = some (.cells #[.func (.func 43) #[] #[], .func (.func 42) #[] #[], .int .i64 2, .int .i64 f, .int .i64 t, .int .i64 u, .slice ka kn kc, .int .i64 mx, .int .i64 mn] 62 (0, 0)) ∧ Below wB.heap.size wB wx)
      case rest =>
        obtain ⟨rfl, R, rfl, hRB, kR, hBc⟩ := hcut
        have hBr : Below wr.heap.size wr wc := HBB.out.1.trans (hBc.mono (by omega))
        have kTc := blk_below HBB.out.2.2 hBc (by omega)
        have r7 := blk_cell kR 7; have r8 := blk_cell kR 8
        have r0 := blk_cell kR 0; have r1 := blk_cell kR 1; have r2 := blk_cell kR 2; have r3 := blk_cell kR 3; have r4 := blk_cell kR 4; have r5 := blk_cell kR 5; have r6 := blk_cell kR 6
        simp at r0 r1 r2 r3 r4 r5 r6 r7 r8
        have HC := Lib.hid (show _ ∧ _ ∧ _ ∧ _ from ⟨hRB, kR, hBr, kTc⟩)
        have hPk : pre.length < n := by omega
        clear hRB kR hBc hBr kTc
        by_cases hre : mx < mn
        · have hrt : rch l F N k = true := by rw [HG.out.2.2.2.1, ← HMX.out, ← HMN.out]; simpa using hre
          have HF := Lib.hid (HG.out.1 hrt)
          obtain ⟨fn, tmps, assign, bdy, hy, hR⟩ := hY pre ⟨k, hlt, hrt⟩ wc (abides_below hJ hJr HC.out.2.2.1) hPk
          have E : encR l F N (⟨k, hlt, hrt⟩ : Rx l F N n) = #[.agg #[.func (.func 43) #[] #[], .func (.func 42) #[] #[], .int .i64 2, .int .i64 f, .int .i64 t, .int .i64 u, .slice ka kn kc, .int .i64 mx, .int .i64 mn]] := by
            rw [HG.out.2.2.1 hrt]
            unfold reV endV chgV
            dsimp only
            rw [← HMX.out, ← HMN.out]
            rfl
          rw [E] at hy
          clear E
          gi_wp2
          refine ⟨fun _ => by omega, hR.mono ?_⟩
          clear hy hR r0 r1 r2 r3 r4 r5 r6 r7 r8
          rintro e W3 (⟨rfl, hJ3, hk3⟩ | ⟨rfl, hJx3⟩)
          · gi_wp2
            go_roundw
            case rel => exact ⟨k + 1, pre ++ [⟨k, hlt, hrt⟩], by omega, by go_num, HF.out, hJ3, kpEx_t (kpEx_t hKr (KpEx.below own HC.out.2.2.1)) hk3, hk3.same _ _ HC.out.2.2.2 rfl (hoW _ hs1)⟩
            case measure => simp [intOf]; omega
          · gi_wp2
            refine bodyPost_ret (results_none rfl _ _ _) rfl ?_
            exact ⟨⟨_, rfl⟩, .inr ⟨pre ++ [⟨k, hlt, hrt⟩], ⟨k + 1, by omega, HF.out⟩, hJx3⟩⟩
        · have hrf : rch l F N k = false := by rw [HG.out.2.2.2.1, ← HMX.out, ← HMN.out]; simpa using hre
          have HF := Lib.hid (HG.out.2.1 hrf)
          clear hrf
          gi_wp2
          refine ⟨fun _ h => (by cases h), ?_⟩
          gi_wp2
          go_roundw
          case rel => exact ⟨k + 1, pre, by omega, by go_num, HF.out, abides_below hJ hJr HC.out.2.2.1, kpEx_t hKr (KpEx.below own HC.out.2.2.1), HC.out.2.2.2⟩
          case measure => simp [intOf]; omega
      refine wp_region_from 0 12 (fun w' : World => Below wB.heap.size wB w') (by kernel_rfl) (by kernel_rfl) (by decide) (by kernel_rfl) ((Below.refl _ _).drew) ?_
      simp only [List.drop_zero, List.take_succ_cons, List.take_zero]
      refine wpHeld_cons (.agg #[.func (.func 43) #[] #[], .func (.func 42) #[] #[]]) (by kernel_rfl) ?_ ?_
      · intro w' s
        obtain ⟨x0, x1, x2, x3, x4, y0, y1, f0, n0⟩ := HCW.out w' s
        try go_simp
      refine wpHeld_cons (.agg #[.int .i64 2, .int .i64 f, .int .i64 t, .int .i64 u, .slice ka kn kc]) (by kernel_rfl) ?_ ?_
      · intro w' s
        obtain ⟨x0, x1, x2, x3, x4, y0, y1, f0, n0⟩ := HCW.out w' s
        try go_simp
      refine wpHeld_cons (.int .i64 F) (by kernel_rfl) ?_ ?_
      · intro w' s
        obtain ⟨x0, x1, x2, x3, x4, y0, y1, f0, n0⟩ := HCW.out w' s
        try go_simp
      refine wpHeld_cons (.pointer (some ⟨wr.heap.size, 1, none⟩)) (by kernel_rfl) ?_ ?_
      · intro w' s
        obtain ⟨x0, x1, x2, x3, x4, y0, y1, f0, n0⟩ := HCW.out w' s
        try go_simp
      refine wpHeld_cons (.int .i64 f) (by kernel_rfl) ?_ ?_
      · intro w' s
        obtain ⟨x0, x1, x2, x3, x4, y0, y1, f0, n0⟩ := HCW.out w' s
        try go_simp
      refine wpHeld_cons (.int .i64 mx) (by kernel_rfl) ?_ ?_
      · intro w' s
        obtain ⟨x0, x1, x2, x3, x4, y0, y1, f0, n0⟩ := HCW.out w' s
        rcases HXY.out with ⟨q1, e1⟩ | ⟨e0, e1⟩ | ⟨q1, e1⟩
        · subst e1
          have q2 : ¬ mx ≤ F := by omega
          have q3 : F ≤ mx := by omega
          try go_simp
        · subst e0 e1
          try go_simp
        · subst e1
          have q2 : ¬ mx ≤ f := by omega
          have q3 : f ≤ mx := by omega
          try go_simp
          try (intro h; omega)
      refine wpHeld_cons (.int .i64 F) (by kernel_rfl) ?_ ?_
      · intro w' s
        obtain ⟨x0, x1, x2, x3, x4, y0, y1, f0, n0⟩ := HCW.out w' s
        try go_simp
      refine wpHeld_cons (.int .i64 N) (by kernel_rfl) ?_ ?_
      · intro w' s
        obtain ⟨x0, x1, x2, x3, x4, y0, y1, f0, n0⟩ := HCW.out w' s
        try go_simp
      refine wpHeld_cons (.int .i64 (F + N)) (by kernel_rfl) ?_ ?_
      · intro w' s
        obtain ⟨x0, x1, x2, x3, x4, y0, y1, f0, n0⟩ := HCW.out w' s
        have u1 : IntKind.i64.wrap (F + N) = F + N := wrap_id huFN
        try go_simp
      refine wpHeld_cons (.pointer (some ⟨wr.heap.size + 1, 0, none⟩)) (by kernel_rfl) ?_ ?_
      · intro w' s
        obtain ⟨x0, x1, x2, x3, x4, y0, y1, f0, n0⟩ := HCW.out w' s
        try go_simp
      refine wpHeld_cons (.func (.func 43) #[] #[]) (by kernel_rfl) ?_ ?_
      · intro w' s
        obtain ⟨x0, x1, x2, x3, x4, y0, y1, f0, n0⟩ := HCW.out w' s
        try go_simp
      refine wpHeld_cons (.agg #[.int .i64 2, .int .i64 f, .int .i64 t, .int .i64 u, .slice ka kn kc]) (by kernel_rfl) ?_ ?_
      · intro w' s
        obtain ⟨x0, x1, x2, x3, x4, y0, y1, f0, n0⟩ := HCW.out w' s
        try go_simp
      refine wpHeld_nil ?_
      go_simp
      refine wpAnyH_two (i := 12) (j := 15) (by kernel_rfl) rfl rfl (by kernel_rfl) (by kernel_rfl) (fun K' hK' => ?_) (fun K' hK' => ?_)
      · go_simp
        refine (until_any ⟨2, f, t, u, ka, kn, kc, kb', ko, ks⟩ _).mono ?_
        rintro e W3 ⟨rfl, hb3⟩
        replace hb3 : Below wB.heap.size wB W3 := (Below.refl _ _).drew.trans hb3
        refine hK' _ _ hb3 ?_
        clear hK' K'
        refine wpAnyH_from 13 2 (fun _ _ _ _ _ h => h) (by kernel_rfl) (by decide) (by kernel_rfl) hb3 ?_
        simp only [List.drop_succ_cons, List.drop_zero, List.take_succ_cons, List.take_zero]
        refine wpHeld_cons (.int .i64 mn) (by kernel_rfl) ?_ ?_
        · intro w' s
          rcases HMY.out with ⟨q1, e1⟩ | ⟨q1, e1⟩ | ⟨q1, e1⟩
          · rw [e1]
            have q2 : F + N ≤ u := by omega
            have q3 : ¬ u ≤ F + N := by omega
            clear e1
            try go_simp
            try (intro h; omega)
          · rw [e1]
            have q2 : F + N ≤ u := by omega
            have q3 : u ≤ F + N := by omega
            clear e1
            try go_simp
            try (first | (intro h; omega) | omega)
          · rw [e1]
            have q2 : ¬ F + N ≤ u := by omega
            have q3 : u ≤ F + N := by omega
            clear e1
            try go_simp
            try (intro h; omega)
        refine wpHeld_cons (.agg #[.func (.func 43) #[] #[], .func (.func 42) #[] #[], .int .i64 2, .int .i64 f, .int .i64 t, .int .i64 u, .slice ka kn kc, .int .i64 mx, .int .i64 mn]) (by kernel_rfl) ?_ ?_
        · intro w' s
          try go_simp
        refine wpHeld_nil ?_
        go_simp
        refine wpAnyH_one (i := 15) (by kernel_rfl) rfl (by kernel_rfl) (fun K' hK' => ?_)
        go_simp
        refine hK' _ _ (hb3.alloc hb3.size _) ?_
        clear hK' K'
        refine wpAnyH_one (i := 16) (by kernel_rfl) rfl (by kernel_rfl) (fun K' hK' => ?_)
        go_simp
        refine hK' _ _ (hb3.alloc hb3.size _) ?_
        clear hK' K'
        refine wpAnyH_done (by kernel_rfl) ?_ _
        refine NoPanic.normal ?_
        go_wp2_with fail
        go_meet
        case rel => exact ⟨rfl, _, rfl, hb3.size, blk_new _ _, hb3.alloc hb3.size _⟩
      · go_simp
        have hb2 : Below wB.heap.size wB (wB.alloc (.cells #[.nilFunc, .nilFunc, .int .i64 0, .int .i64 0, .int .i64 0, .int .i64 0, .slice none 0 0, .int .i64 0, .int .i64 0] 62)) := (Below.refl _ _).alloc (Nat.le_refl _) _
        have k9 := blk_new wB (.cells #[.nilFunc, .nilFunc, .int .i64 0, .int .i64 0, .int .i64 0, .int .i64 0, .slice none 0 0, .int .i64 0, .int .i64 0] 62)
        refine hK' _ _ hb2.drew ?_
        clear hK' K'
        refine wpAnyH_one (i := 12) (by kernel_rfl) rfl (by kernel_rfl) (fun K' hK' => ?_)
        go_simp
        refine (until_any ⟨2, f, t, u, ka, kn, kc, kb', ko, ks⟩ _).mono ?_
        rintro e W3 ⟨rfl, hb3⟩
        have hb4 : Below (wB.alloc (.cells #[.nilFunc, .nilFunc, .int .i64 0, .int .i64 0, .int .i64 0, .int .i64 0, .slice none 0 0, .int .i64 0, .int .i64 0] 62)).heap.size (wB.alloc (.cells #[.nilFunc, .nilFunc, .int .i64 0, .int .i64 0, .int .i64 0, .int .i64 0, .slice none 0 0, .int .i64 0, .int .i64 0] 62)) W3 := (Below.refl _ _).drew.trans hb3
        have k8 := blk_below k9 hb4 (by simp)
        clear hb3
        have hb3 : Below wB.heap.size wB W3 := hb2.trans (hb4.mono (by simp))
        clear hb4
        refine hK' _ _ hb3 ?_
        clear hK' K' k9 hb2
        refine wpAnyH_from 13 2 (fun _ _ _ _ _ h => h) (by kernel_rfl) (by decide) (by kernel_rfl) hb3 ?_
        simp only [List.drop_succ_cons, List.drop_zero, List.take_succ_cons, List.take_zero]
        refine wpHeld_cons (.int .i64 mn) (by kernel_rfl) ?_ ?_
        · intro w' s
          rcases HMY.out with ⟨q1, e1⟩ | ⟨q1, e1⟩ | ⟨q1, e1⟩
          · rw [e1]
            have q2 : F + N ≤ u := by omega
            have q3 : ¬ u ≤ F + N := by omega
            clear e1
            try go_simp
            try (intro h; omega)
          · rw [e1]
            have q2 : F + N ≤ u := by omega
            have q3 : u ≤ F + N := by omega
            clear e1
            try go_simp
            try (first | (intro h; omega) | omega)
          · rw [e1]
            have q2 : ¬ F + N ≤ u := by omega
            have q3 : u ≤ F + N := by omega
            clear e1
            try go_simp
            try (intro h; omega)
        refine wpHeld_cons (.agg #[.func (.func 43) #[] #[], .func (.func 42) #[] #[], .int .i64 2, .int .i64 f, .int .i64 t, .int .i64 u, .slice ka kn kc, .int .i64 mx, .int .i64 mn]) (by kernel_rfl) ?_ ?_
        · intro w' s
          try go_simp
        refine wpHeld_nil ?_
        go_simp
        have y0 := blk_cell k8 0; have z0 := blk_free k8 0
        have y1 := blk_cell k8 1; have z1 := blk_free k8 1
        have y2 := blk_cell k8 2; have z2 := blk_free k8 2
        have y3 := blk_cell k8 3; have z3 := blk_free k8 3
        have y4 := blk_cell k8 4; have z4 := blk_free k8 4
        have y5 := blk_cell k8 5; have z5 := blk_free k8 5
        have y6 := blk_cell k8 6; have z6 := blk_free k8 6
        have y7 := blk_cell k8 7; have z7 := blk_free k8 7
        have y8 := blk_cell k8 8; have z8 := blk_free k8 8
        simp at y0 y1 y2 y3 y4 y5 y6 y7 y8
        refine wpAnyH_one (i := 16) (by kernel_rfl) rfl (by kernel_rfl) (fun K' hK' => ?_)
        go_simp
        have s0 := cells_setK (i := 0) (v := .func (.func 43) #[] #[]) k8
        have s1 := cells_setK (i := 1) (v := .func (.func 42) #[] #[]) s0
        have s2 := cells_setK (i := 2) (v := .int .i64 2) s1
        have s3 := cells_setK (i := 3) (v := .int .i64 f) s2
        have s4 := cells_setK (i := 4) (v := .int .i64 t) s3
        have s5 := cells_setK (i := 5) (v := .int .i64 u) s4
        have s6 := cells_setK (i := 6) (v := .slice ka kn kc) s5
        have s7 := cells_setK (i := 7) (v := .int .i64 mx) s6
        have s8 := cells_setK (i := 8) (v := .int .i64 mn) s7
        simp at s8
        have t0 := hb3.setCell (p := ⟨wB.heap.size, 0, none⟩) (Nat.le_refl _) (.func (.func 43) #[] #[])
        have t1 := t0.setCell (p := ⟨wB.heap.size, 1, none⟩) (Nat.le_refl _) (.func (.func 42) #[] #[])
        have t2 := t1.setCell (p := ⟨wB.heap.size, 2, none⟩) (Nat.le_refl _) (.int .i64 2)
        have t3 := t2.setCell (p := ⟨wB.heap.size, 3, none⟩) (Nat.le_refl _) (.int .i64 f)
        have t4 := t3.setCell (p := ⟨wB.heap.size, 4, none⟩) (Nat.le_refl _) (.int .i64 t)
        have t5 := t4.setCell (p := ⟨wB.heap.size, 5, none⟩) (Nat.le_refl _) (.int .i64 u)
        have t6 := t5.setCell (p := ⟨wB.heap.size, 6, none⟩) (Nat.le_refl _) (.slice ka kn kc)
        have t7 := t6.setCell (p := ⟨wB.heap.size, 7, none⟩) (Nat.le_refl _) (.int .i64 mx)
        have t8 := t7.setCell (p := ⟨wB.heap.size, 8, none⟩) (Nat.le_refl _) (.int .i64 mn)
        refine hK' _ _ t8 ?_
        clear hK' K'
        refine wpAnyH_done (by kernel_rfl) ?_ _
        refine NoPanic.normal ?_
        have HS := Lib.hid (show _ ∧ _ from ⟨s8, t8⟩)
        clear s0 s1 s2 s3 s4 s5 s6 s7 s8 t0 t1 t2 t3 t4 t5 t6 t7 t8 y0 z0 y1 z1 y2 z2 y3 z3 y4 z4 y5 z5 y6 z6 y7 z7 y8 z8 k8
        go_wp2_with fail
        go_meet
        case rel => exact ⟨rfl, _, rfl, Nat.le_refl _, HS.out.1, HS.out.2⟩
    · obtain rfl : t = u := by omega
      gi_wp2
      have kG := blk_alloc (blk_new wr (.cells #[.int .i64 3, .int .i64 f, .int .i64 t, .int .i64 t, .slice ka kn kc] 38)) (.cells #[.func (.func 41) #[] #[], .func (.func 44) #[] #[]] 60)
      have kM := blk_new (wr.alloc (.cells #[.int .i64 3, .int .i64 f, .int .i64 t, .int .i64 t, .slice ka kn kc] 38)) (.cells #[.func (.func 41) #[] #[], .func (.func 44) #[] #[]] 60)
      rw [World.size_alloc] at kM
      have kF := blk_alloc (blk_alloc d1 (.cells #[.int .i64 3, .int .i64 f, .int .i64 t, .int .i64 t, .slice ka kn kc] 38)) (.cells #[.func (.func 41) #[] #[], .func (.func 44) #[] #[]] 60)
      have kN := blk_alloc (blk_alloc d3 (.cells #[.int .i64 3, .int .i64 f, .int .i64 t, .int .i64 t, .slice ka kn kc] 38)) (.cells #[.func (.func 41) #[] #[], .func (.func 44) #[] #[]] 60)
      have kT := blk_alloc (blk_alloc hT (.cells #[.int .i64 3, .int .i64 f, .int .i64 t, .int .i64 t, .slice ka kn kc] 38)) (.cells #[.func (.func 41) #[] #[], .func (.func 44) #[] #[]] 60)
      have hBB : Below wr.heap.size wr ((wr.alloc (.cells #[.int .i64 3, .int .i64 f, .int .i64 t, .int .i64 t, .slice ka kn kc] 38)).alloc (.cells #[.func (.func 41) #[] #[], .func (.func 44) #[] #[]] 60)) := ((Below.refl _ _).alloc (Nat.le_refl _) _).alloc (by simp) _
      have hsB : ((wr.alloc (.cells #[.int .i64 3, .int .i64 f, .int .i64 t, .int .i64 t, .slice ka kn kc] 38)).alloc (.cells #[.func (.func 41) #[] #[], .func (.func 44) #[] #[]] 60)).heap.size = wr.heap.size + 1 + 1 := by simp
      generalize (wr.alloc (.cells #[.int .i64 3, .int .i64 f, .int .i64 t, .int .i64 t, .slice ka kn kc] 38)).alloc (.cells #[.func (.func 41) #[] #[], .func (.func 44) #[] #[]] 60) = wB at *
      have HCW : ∀ w', Below wB.heap.size wB w' → w'.cell? ⟨wr.heap.size, 0, none⟩ = some (.int .i64 3) ∧ w'.cell? ⟨wr.heap.size, 1, none⟩ = some (.int .i64 f) ∧ w'.cell? ⟨wr.heap.size, 2, none⟩ = some (.int .i64 t) ∧ w'.cell? ⟨wr.heap.size, 3, none⟩ = some (.int .i64 t) ∧ w'.cell? ⟨wr.heap.size, 4, none⟩ = some (.slice ka kn kc) ∧ w'.cell? ⟨wr.heap.size + 1, 0, none⟩ = some (.func (.func 41) #[] #[]) ∧ w'.cell? ⟨wr.heap.size + 1, 1, none⟩ = some (.func (.func 44) #[] #[]) ∧ w'.cell? ⟨Bf, 0, none⟩ = some (.int .i64 F) ∧ w'.cell? ⟨Bn, 0, none⟩ = some (.int .i64 N) := by
        intro w' hb
        have g1 := blk_below kG hb (by omega)
        have g2 := blk_below kM hb (by omega)
        exact ⟨blk_cell g1 0, blk_cell g1 1, blk_cell g1 2, blk_cell g1 3, blk_cell g1 4, blk_cell g2 0, blk_cell g2 1, blk_cell (blk_below kF hb (by omega)) 0, blk_cell (blk_below kN hb (by omega)) 0⟩
      have HCW := Lib.hid HCW
      have HBB := Lib.hid (show _ ∧ _ ∧ _ from ⟨hBB, kG, kT⟩)
      obtain ⟨mx, hmx⟩ : ∃ mx, mx = max F f := ⟨_, rfl⟩
      have HMX := Lib.hid hmx
      have hXY : (F < f ∧ mx = f) ∨ (F = f ∧ mx = F) ∨ (f < F ∧ mx = F) := by omega
      have HXY := Lib.hid hXY
      have HSB := Lib.hid hsB
      have hlB : wr.heap.size + 1 < wB.heap.size := by omega
      have huFN : -9223372036854775808 ≤ F + N ∧ F + N ≤ 9223372036854775807 := by omega
      clear hsB hmx hXY kG kM kF kN kT hT hBB d1 d2 d3 c1 c2 c3 t0 t1 t2 t3 t4 t5 e0 e1 e2 e3 e4
      obtain ⟨mn, hmn⟩ : ∃ mn, mn = min (F + N) t := ⟨_, rfl⟩
      have HMN := Lib.hid hmn
      have hMY : (F + N < t ∧ mn = F + N) ∨ (F + N = t ∧ mn = F + N) ∨ (t < F + N ∧ mn = t) := by omega
      have HMY := Lib.hid hMY
      clear hmn hMY
      refine wpIn_wide.2 ?_
      go_cut [9, 15] from 15 to 49 (fun r i wx => i = .int .i64 k ∧ ∃ R, r = .pointer (some ⟨R, 0, none⟩) ∧ wB.heap.size ≤ R ∧ wx.heap[R]? = some (.cells #[.func (.func 41) #[] #[], .func (.func 44) #[] #[], .int .i64 3, .int .i64 f, .int .i64 t, .int .i64 t, .slice ka kn kc, .int .i64 mx, .int .i64 mn] 62 (0, 0)) ∧ Below wB.heap.size wB wx)
      case rest =>
        obtain ⟨rfl, R, rfl, hRB, kR, hBc⟩ := hcut
        have hBr : Below wr.heap.size wr wc := HBB.out.1.trans (hBc.mono (by omega))
        have kTc := blk_below HBB.out.2.2 hBc (by omega)
        have r7 := blk_cell kR 7; have r8 := blk_cell kR 8
        have r0 := blk_cell kR 0; have r1 := blk_cell kR 1; have r2 := blk_cell kR 2; have r3 := blk_cell kR 3; have r4 := blk_cell kR 4; have r5 := blk_cell kR 5; have r6 := blk_cell kR 6
        simp at r0 r1 r2 r3 r4 r5 r6 r7 r8
        have HC := Lib.hid (show _ ∧ _ ∧ _ ∧ _ from ⟨hRB, kR, hBr, kTc⟩)
        have hPk : pre.length < n := by omega
        clear hRB kR hBc hBr kTc
        by_cases hre : mx < mn
        · have hrt : rch l F N k = true := by rw [HG.out.2.2.2.1, ← HMX.out, ← HMN.out]; simpa using hre
          have HF := Lib.hid (HG.out.1 hrt)
          obtain ⟨fn, tmps, assign, bdy, hy, hR⟩ := hY pre ⟨k, hlt, hrt⟩ wc (abides_below hJ hJr HC.out.2.2.1) hPk
          have E : encR l F N (⟨k, hlt, hrt⟩ : Rx l F N n) = #[.agg #[.func (.func 41) #[] #[], .func (.func 44) #[] #[], .int .i64 3, .int .i64 f, .int .i64 t, .int .i64 t, .slice ka kn kc, .int .i64 mx, .int .i64 mn]] := by
            rw [HG.out.2.2.1 hrt]
            unfold reV endV chgV
            dsimp only
            rw [← HMX.out, ← HMN.out]
            rfl
          rw [E] at hy
          clear E
          gi_wp2
          refine ⟨fun _ => by omega, hR.mono ?_⟩
          clear hy hR r0 r1 r2 r3 r4 r5 r6 r7 r8
          rintro e W3 (⟨rfl, hJ3, hk3⟩ | ⟨rfl, hJx3⟩)
          · gi_wp2
            go_roundw
            case rel => exact ⟨k + 1, pre ++ [⟨k, hlt, hrt⟩], by omega, by go_num, HF.out, hJ3, kpEx_t (kpEx_t hKr (KpEx.below own HC.out.2.2.1)) hk3, hk3.same _ _ HC.out.2.2.2 rfl (hoW _ hs1)⟩
            case measure => simp [intOf]; omega
          · gi_wp2
            refine bodyPost_ret (results_none rfl _ _ _) rfl ?_
            exact ⟨⟨_, rfl⟩, .inr ⟨pre ++ [⟨k, hlt, hrt⟩], ⟨k + 1, by omega, HF.out⟩, hJx3⟩⟩
        · have hrf : rch l F N k = false := by rw [HG.out.2.2.2.1, ← HMX.out, ← HMN.out]; simpa using hre
          have HF := Lib.hid (HG.out.2.1 hrf)
          clear hrf
          gi_wp2
          refine ⟨fun _ h => (by cases h), ?_⟩
          gi_wp2
          go_roundw
          case rel => exact ⟨k + 1, pre, by omega, by go_num, HF.out, abides_below hJ hJr HC.out.2.2.1, kpEx_t hKr (KpEx.below own HC.out.2.2.1), HC.out.2.2.2⟩
          case measure => simp [intOf]; omega
      refine wp_region_from 0 12 (fun w' : World => Below wB.heap.size wB w') (by kernel_rfl) (by kernel_rfl) (by decide) (by kernel_rfl) ((Below.refl _ _).drew) ?_
      simp only [List.drop_zero, List.take_succ_cons, List.take_zero]
      refine wpHeld_cons (.agg #[.func (.func 41) #[] #[], .func (.func 44) #[] #[]]) (by kernel_rfl) ?_ ?_
      · intro w' s
        obtain ⟨x0, x1, x2, x3, x4, y0, y1, f0, n0⟩ := HCW.out w' s
        try go_simp
      refine wpHeld_cons (.agg #[.int .i64 3, .int .i64 f, .int .i64 t, .int .i64 t, .slice ka kn kc]) (by kernel_rfl) ?_ ?_
      · intro w' s
        obtain ⟨x0, x1, x2, x3, x4, y0, y1, f0, n0⟩ := HCW.out w' s
        try go_simp
      refine wpHeld_cons (.int .i64 F) (by kernel_rfl) ?_ ?_
      · intro w' s
        obtain ⟨x0, x1, x2, x3, x4, y0, y1, f0, n0⟩ := HCW.out w' s
        try go_simp
      refine wpHeld_cons (.pointer (some ⟨wr.heap.size, 1, none⟩)) (by kernel_rfl) ?_ ?_
      · intro w' s
        obtain ⟨x0, x1, x2, x3, x4, y0, y1, f0, n0⟩ := HCW.out w' s
        try go_simp
      refine wpHeld_cons (.int .i64 f) (by kernel_rfl) ?_ ?_
      · intro w' s
        obtain ⟨x0, x1, x2, x3, x4, y0, y1, f0, n0⟩ := HCW.out w' s
        try go_simp
      refine wpHeld_cons (.int .i64 mx) (by kernel_rfl) ?_ ?_
      · intro w' s
        obtain ⟨x0, x1, x2, x3, x4, y0, y1, f0, n0⟩ := HCW.out w' s
        rcases HXY.out with ⟨q1, e1⟩ | ⟨e0, e1⟩ | ⟨q1, e1⟩
        · subst e1
          have q2 : ¬ mx ≤ F := by omega
          have q3 : F ≤ mx := by omega
          try go_simp
        · subst e0 e1
          try go_simp
        · subst e1
          have q2 : ¬ mx ≤ f := by omega
          have q3 : f ≤ mx := by omega
          try go_simp
          try (intro h; omega)
      refine wpHeld_cons (.int .i64 F) (by kernel_rfl) ?_ ?_
      · intro w' s
        obtain ⟨x0, x1, x2, x3, x4, y0, y1, f0, n0⟩ := HCW.out w' s
        try go_simp
      refine wpHeld_cons (.int .i64 N) (by kernel_rfl) ?_ ?_
      · intro w' s
        obtain ⟨x0, x1, x2, x3, x4, y0, y1, f0, n0⟩ := HCW.out w' s
        try go_simp
      refine wpHeld_cons (.int .i64 (F + N)) (by kernel_rfl) ?_ ?_
      · intro w' s
        obtain ⟨x0, x1, x2, x3, x4, y0, y1, f0, n0⟩ := HCW.out w' s
        have u1 : IntKind.i64.wrap (F + N) = F + N := wrap_id huFN
        try go_simp
      refine wpHeld_cons (.pointer (some ⟨wr.heap.size + 1, 0, none⟩)) (by kernel_rfl) ?_ ?_
      · intro w' s
        obtain ⟨x0, x1, x2, x3, x4, y0, y1, f0, n0⟩ := HCW.out w' s
        try go_simp
      refine wpHeld_cons (.func (.func 41) #[] #[]) (by kernel_rfl) ?_ ?_
      · intro w' s
        obtain ⟨x0, x1, x2, x3, x4, y0, y1, f0, n0⟩ := HCW.out w' s
        try go_simp
      refine wpHeld_cons (.agg #[.int .i64 3, .int .i64 f, .int .i64 t, .int .i64 t, .slice ka kn kc]) (by kernel_rfl) ?_ ?_
      · intro w' s
        obtain ⟨x0, x1, x2, x3, x4, y0, y1, f0, n0⟩ := HCW.out w' s
        try go_simp
      refine wpHeld_nil ?_
      go_simp
      refine wpAnyH_two (i := 12) (j := 15) (by kernel_rfl) rfl rfl (by kernel_rfl) (by kernel_rfl) (fun K' hK' => ?_) (fun K' hK' => ?_)
      · go_simp
        refine (to_any ⟨3, f, t, t, ka, kn, kc, kb', ko, ks⟩ _).mono ?_
        rintro e W3 ⟨rfl, hb3⟩
        replace hb3 : Below wB.heap.size wB W3 := (Below.refl _ _).drew.trans hb3
        refine hK' _ _ hb3 ?_
        clear hK' K'
        refine wpAnyH_from 13 2 (fun _ _ _ _ _ h => h) (by kernel_rfl) (by decide) (by kernel_rfl) hb3 ?_
        simp only [List.drop_succ_cons, List.drop_zero, List.take_succ_cons, List.take_zero]
        refine wpHeld_cons (.int .i64 mn) (by kernel_rfl) ?_ ?_
        · intro w' s
          rcases HMY.out with ⟨q1, e1⟩ | ⟨q1, e1⟩ | ⟨q1, e1⟩
          · rw [e1]
            have q2 : F + N ≤ t := by omega
            have q3 : ¬ t ≤ F + N := by omega
            clear e1
            try go_simp
            try (intro h; omega)
          · rw [e1]
            have q2 : F + N ≤ t := by omega
            have q3 : t ≤ F + N := by omega
            clear e1
            try go_simp
            try (first | (intro h; omega) | omega)
          · rw [e1]
            have q2 : ¬ F + N ≤ t := by omega
            have q3 : t ≤ F + N := by omega
            clear e1
            try go_simp
            try (intro h; omega)
        refine wpHeld_cons (.agg #[.func (.func 41) #[] #[], .func (.func 44) #[] #[], .int .i64 3, .int .i64 f, .int .i64 t, .int .i64 t, .slice ka kn kc, .int .i64 mx, .int .i64 mn]) (by kernel_rfl) ?_ ?_
        · intro w' s
          try go_simp
        refine wpHeld_nil ?_
        go_simp
        refine wpAnyH_one (i := 15) (by kernel_rfl) rfl (by kernel_rfl) (fun K' hK' => ?_)
        go_simp
        refine hK' _ _ (hb3.alloc hb3.size _) ?_
        clear hK' K'
        refine wpAnyH_one (i := 16) (by kernel_rfl) rfl (by kernel_rfl) (fun K' hK' => ?_)
        go_simp
        refine hK' _ _ (hb3.alloc hb3.size _) ?_
        clear hK' K'
        refine wpAnyH_done (by kernel_rfl) ?_ _
        refine NoPanic.normal ?_
        go_wp2_with fail
        go_meet
        case rel => exact ⟨rfl, _, rfl, hb3.size, blk_new _ _, hb3.alloc hb3.size _⟩
      · go_simp
        have hb2 : Below wB.heap.size wB (wB.alloc (.cells #[.nilFunc, .nilFunc, .int .i64 0, .int .i64 0, .int .i64 0, .int .i64 0, .slice none 0 0, .int .i64 0, .int .i64 0] 62)) := (Below.refl _ _).alloc (Nat.le_refl _) _
        have k9 := blk_new wB (.cells #[.nilFunc, .nilFunc, .int .i64 0, .int .i64 0, .int .i64 0, .int .i64 0, .slice none 0 0, .int .i64 0, .int .i64 0] 62)
        refine hK' _ _ hb2.drew ?_
        clear hK' K'
        refine wpAnyH_one (i := 12) (by kernel_rfl) rfl (by kernel_rfl) (fun K' hK' => ?_)
        go_simp
        refine (to_any ⟨3, f, t, t, ka, kn, kc, kb', ko, ks⟩ _).mono ?_
        rintro e W3 ⟨rfl, hb3⟩
        have hb4 : Below (wB.alloc (.cells #[.nilFunc, .nilFunc, .int .i64 0, .int .i64 0, .int .i64 0, .int .i64 0, .slice none 0 0, .int .i64 0, .int .i64 0] 62)).heap.size (wB.alloc (.cells #[.nilFunc, .nilFunc, .int .i64 0, .int .i64 0, .int .i64 0, .int .i64 0, .slice none 0 0, .int .i64 0, .int .i64 0] 62)) W3 := (Below.refl _ _).drew.trans hb3
        have k8 := blk_below k9 hb4 (by simp)
        clear hb3
        have hb3 : Below wB.heap.size wB W3 := hb2.trans (hb4.mono (by simp))
        clear hb4
        refine hK' _ _ hb3 ?_
        clear hK' K' k9 hb2
        refine wpAnyH_from 13 2 (fun _ _ _ _ _ h => h) (by kernel_rfl) (by decide) (by kernel_rfl) hb3 ?_
        simp only [List.drop_succ_cons, List.drop_zero, List.take_succ_cons, List.take_zero]
        refine wpHeld_cons (.int .i64 mn) (by kernel_rfl) ?_ ?_
        · intro w' s
          rcases HMY.out with ⟨q1, e1⟩ | ⟨q1, e1⟩ | ⟨q1, e1⟩
          · rw [e1]
            have q2 : F + N ≤ t := by omega
            have q3 : ¬ t ≤ F + N := by omega
            clear e1
            try go_simp
            try (intro h; omega)
          · rw [e1]
            have q2 : F + N ≤ t := by omega
            have q3 : t ≤ F + N := by omega
            clear e1
            try go_simp
            try (first | (intro h; omega) | omega)
          · rw [e1]
            have q2 : ¬ F + N ≤ t := by omega
            have q3 : t ≤ F + N := by omega
            clear e1
            try go_simp
            try (intro h; omega)
        refine wpHeld_cons (.agg #[.func (.func 41) #[] #[], .func (.func 44) #[] #[], .int .i64 3, .int .i64 f, .int .i64 t, .int .i64 t, .slice ka kn kc, .int .i64 mx, .int .i64 mn]) (by kernel_rfl) ?_ ?_
        · intro w' s
          try go_simp
        refine wpHeld_nil ?_
        go_simp
        have y0 := blk_cell k8 0; have z0 := blk_free k8 0
        have y1 := blk_cell k8 1; have z1 := blk_free k8 1
        have y2 := blk_cell k8 2; have z2 := blk_free k8 2
        have y3 := blk_cell k8 3; have z3 := blk_free k8 3
        have y4 := blk_cell k8 4; have z4 := blk_free k8 4
        have y5 := blk_cell k8 5; have z5 := blk_free k8 5
        have y6 := blk_cell k8 6; have z6 := blk_free k8 6
        have y7 := blk_cell k8 7; have z7 := blk_free k8 7
        have y8 := blk_cell k8 8; have z8 := blk_free k8 8
        simp at y0 y1 y2 y3 y4 y5 y6 y7 y8
        refine wpAnyH_one (i := 16) (by kernel_rfl) rfl (by kernel_rfl) (fun K' hK' => ?_)
        go_simp
        have s0 := cells_setK (i := 0) (v := .func (.func 41) #[] #[]) k8
        have s1 := cells_setK (i := 1) (v := .func (.func 44) #[] #[]) s0
        have s2 := cells_setK (i := 2) (v := .int .i64 3) s1
        have s3 := cells_setK (i := 3) (v := .int .i64 f) s2
        have s4 := cells_setK (i := 4) (v := .int .i64 t) s3
        have s5 := cells_setK (i := 5) (v := .int .i64 t) s4
        have s6 := cells_setK (i := 6) (v := .slice ka kn kc) s5
        have s7 := cells_setK (i := 7) (v := .int .i64 mx) s6
        have s8 := cells_setK (i := 8) (v := .int .i64 mn) s7
        simp at s8
        have t0 := hb3.setCell (p := ⟨wB.heap.size, 0, none⟩) (Nat.le_refl _) (.func (.func 41) #[] #[])
        have t1 := t0.setCell (p := ⟨wB.heap.size, 1, none⟩) (Nat.le_refl _) (.func (.func 44) #[] #[])
        have t2 := t1.setCell (p := ⟨wB.heap.size, 2, none⟩) (Nat.le_refl _) (.int .i64 3)
        have t3 := t2.setCell (p := ⟨wB.heap.size, 3, none⟩) (Nat.le_refl _) (.int .i64 f)
        have t4 := t3.setCell (p := ⟨wB.heap.size, 4, none⟩) (Nat.le_refl _) (.int .i64 t)
        have t5 := t4.setCell (p := ⟨wB.heap.size, 5, none⟩) (Nat.le_refl _) (.int .i64 t)
        have t6 := t5.setCell (p := ⟨wB.heap.size, 6, none⟩) (Nat.le_refl _) (.slice ka kn kc)
        have t7 := t6.setCell (p := ⟨wB.heap.size, 7, none⟩) (Nat.le_refl _) (.int .i64 mx)
        have t8 := t7.setCell (p := ⟨wB.heap.size, 8, none⟩) (Nat.le_refl _) (.int .i64 mn)
        refine hK' _ _ t8 ?_
        clear hK' K'
        refine wpAnyH_done (by kernel_rfl) ?_ _
        refine NoPanic.normal ?_
        have HS := Lib.hid (show _ ∧ _ from ⟨s8, t8⟩)
        clear s0 s1 s2 s3 s4 s5 s6 s7 s8 t0 t1 t2 t3 t4 t5 t6 t7 t8 y0 z0 y1 z1 y2 z2 y3 z3 y4 z4 y5 z5 y6 z6 y7 z7 y8 z8 k8
        go_wp2_with fail
        go_meet
        case rel => exact ⟨rfl, _, rfl, Nat.le_refl _, HS.out.1, HS.out.2⟩
end Go.Proofs.Ytmblkmllamccnaa
