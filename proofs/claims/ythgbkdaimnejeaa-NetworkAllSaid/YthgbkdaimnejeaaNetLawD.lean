/- NetworkAll (layer 6). -/
import Derived.Test.YthgbkdaimnejeaaNetAllA
import Derived.Deep.CutRange
namespace Go.Proofs.Ythgbkdaimnejeaa
open Go.ChangeShapes Go.WideShapes Go.ChangeAt Go.RowKit Go.Sort Go.Shelf

theorem Ks.box {w : World} {g : Nat} {a b c d e f a' b' c' d' e' f' : _} {t : TypeId} {ra : Option Addr} {rb ro rn : Nat} {l : List Kt} (h : Ks w ra rn rb ro l) (hg : w.heap[g]? = some (.cells #[.slice a b c, .slice d e f] t (0, 0))) : Ks ((w.setCell ⟨g, 0, none⟩ (.slice a' b' c')).setCell ⟨g, 1, none⟩ (.slice d' e' f')) ra rn rb ro l := by
  have hne : 0 < rn → rb ≠ g := fun h0 e => by
    subst e
    exact noInt_box hg _ _ _ _ (h.2.2 0 h0).1 rfl
  exact (h.far hne).far hne

theorem KsO.ownB {w : World} {B : Nat} {v : Value} {l : List Kt} (h : KsO w B v l) : v.ownBlock = none ∨ ∃ q, v.ownBlock = some q ∧ B ≤ q ∧ q < w.heap.size := by
  rcases h.2 with ⟨h0, _⟩ | ⟨q, cap, cur, h1, h2, h3, h4⟩
  · left; rw [h0]; rfl
  · right; exact ⟨q, by rw [h1]; rfl, h2, (Array.getElem?_eq_some_iff.1 h3).1⟩
theorem samePk_t (k0 k1 : Int) (ka : Option Addr) (kn kc : Nat) (y0 y1 : Int) (ya : Option Addr) (yn yc : Nat) (m : Pk) (w : World) (h : PkV w (k0, k1, ka, kn, kc) m) (h' : PkV w (y0, y1, ya, yn, yc) m) : Calls Try.prog 22 #[.agg #[.int .i64 k0, .int .i64 k1, .slice ka kn kc], .agg #[.int .i64 y0, .int .i64 y1, .slice ya yn yc]] w fun e w' => e = .returned (.bool true) ∧ Below w.heap.size w w' := by
  have := samePk_s _ _ m m w h h'
  rwa [decide_eq_true rfl] at this
set_option maxRecDepth 100000 in
set_option maxHeartbeats 8000000 in
theorem all_walk (sa : Option Addr) (sn sc sb so : Nat) (Ql : List Kt) (Dl : List ByteArray) (oa : Option Addr) (on oc ob oo : Nat) (zo : List Int) (w : World) (hK : Ks w sa sn sb so Ql) (hD : Dats w Ql Dl) (hR : RowB w oa ob oo on zo) (hz : ∀ i, i < on → 0 ≤ zo.getD i 0 ∧ zo.getD i 0 < 256) :
    Calls Try.prog 6 #[.slice sa sn sc, .slice oa on oc] w fun e w' => e = .returned (.bool true) ∧ Below w.heap.size w w' := by
  have H0 := Lib.hid (Below.refl w.heap.size w)
  have HA := Lib.hid (show _ ∧ _ ∧ _ ∧ _ from ⟨hK, hD, hR, hK.1⟩)
  clear hK hD hR
  go_enter Try.func6, Try.ntmps6
  go_upto_region 1 with fail
  go_wp2_with fail
  refine (sane_any w).mono ?_
  rintro e W1 ⟨rfl, hb⟩
  have H1 := Lib.hid (show _ from below_after H0.out hb H0.out.size)
  clear H0
  clear hb
  by_cases hs12 : 12 < sn
  · have z : decide (12 < (sn : Int)) = true := decide_eq_true (by omega)
    go_wp2
    exact bodyPost_ret (v := .bool true) (by simp [results, Try.results6, go_sem]) rfl ⟨rfl, H1.out⟩
  have z : decide (12 < (sn : Int)) = false := decide_eq_false (by omega)
  go_upto_region 5 with fail
  clear z
  go_wp2_with fail
  refine (new_any W1).mono ?_
  rintro e W2 ⟨rfl, hb⟩
  have H2 := Lib.hid (show _ from below_after H1.out hb H1.out.size)
  clear H1
  clear hb
  have HLOW := Lib.hid H2.out
  go_upto_region 6 with fail
  have hb := ((Below.refl W2.heap.size W2).alloc (Nat.le_refl _) (.cells #[.slice none 0 0, .slice none 0 0] 25))
  have H3 := Lib.hid (show _ ∧ _ from ⟨below_after H2.out hb H2.out.size, blk_new W2 (.cells #[.slice none 0 0, .slice none 0 0] 25)⟩)
  clear H2
  clear hb
  generalize hzW3 : W2.alloc (.cells #[.slice none 0 0, .slice none 0 0] 25) = W3 at *
  clear hzW3
  have hX := H3.out.2
  generalize hg5 : W2.heap.size = X at *
  have hXs := H3.out.1.size
  have hwX : w.heap.size ≤ X := by rw [← hg5]; exact HLOW.out.size
  have HZ := Lib.hid (show _ ∧ _ from ⟨hX, H3.out.1⟩)
  clear hX hg5 hXs HLOW H3
  go_wp2
  go_loopw [6, 7] (fun s i wr => ∃ j : Nat, j ≤ sn ∧ i = .int .i64 j ∧ ∃ (Q : List Kt) (D : List ByteArray) (qa : Option Addr) (qn qc qb qo : Nat), Ks wr qa qn qb qo Q ∧ KsO wr (X + 1) s Q ∧ Dats w Q D ∧ (∀ m ∈ pkL Q D, okS m) ∧ Q.length ≤ j ∧ (0 < qn → some qb ≠ s.ownBlock) ∧ wr.heap[X]? = some (.cells #[.slice qa qn qc, .slice none 0 0] 25 (0, 0)) ∧ (qn ≤ qc ∧ qc ≤ 9223372036854775807 ∧ (qa = none → qc = 0)) ∧ Below w.heap.size w wr) (fun _ i _ => sn - (intOf i).toNat)
  case atStart => exact ⟨0, Nat.zero_le _, rfl, [], [], none, 0, 0, 0, 0, Ks.zero _ _, KsO.nil _ _, ⟨rfl, fun i hi => by simp at hi⟩, fun m hm => (by cases hm), Nat.le_refl _, fun h => (by cases h), HZ.out.1, ⟨Nat.le_refl _, by omega, fun _ => rfl⟩, HZ.out.2⟩
  case round =>
    clear HZ
    obtain ⟨j, hj, rfl, Q, D, qa, qn, qc, qb, qo, hKn, hKr, hDr, hok, hlj, hsep, hXb, hqb, hlo⟩ := hrel
    have hXl := (Array.getElem?_eq_some_iff.1 hXb).1
    by_cases hjs : j < sn
    case neg =>
      obtain ⟨ra, rb, rc, rfl, hRk, -, hrz, hrc, hrm⟩ := hKr.s
      have HB := Lib.hid (show _ ∧ _ ∧ _ ∧ _ ∧ _ from ⟨hXb, hlo, (⟨⟨qb, qo, Q, D, 0, 0, hKn, hDr.grown hlo, rfl, Qs.zero _ _⟩, hqb.1, hqb.2.1, hqb.2.2, Nat.zero_le _⟩ : NetV wr ((qa, qn, qc), (none, 0, 0)) (pkL Q D) []), hRk, (⟨by rw [pkL_len hDr.len]; omega, hok, fun i hi => by simp at hi⟩ : NOk (pkL Q D) [])⟩)
      have z1 : decide ((j : Int) < (sn : Int)) = false := decide_eq_false (by omega)
      have hlen : Q.length ≤ 12 := by omega
      have hrm' : rc ≤ 9223372036854775807 := by unfold maxLen at hrm; omega
      have HD := Lib.hid hDr
      generalize hln : Q.length = rn at *
      have HLN := Lib.hid hln
      clear hKn hKr hDr hok hsep hXb hqb hlo hRk hlj hln hrm
      go_wp2
      generalize wr = wq at *
      go_loopw [6, 10] (fun s i wr => ∃ (ra : Option Addr) (rn rc rb ro : Nat) (Q : List Kt) (D : List ByteArray) (x : Sl × Sl) (i' : Nat), i' + rn ≤ 12 ∧ s = .slice ra rn rc ∧ i = .int .i64 i' ∧ rn ≤ 12 ∧ Ks wr ra rn rb ro Q ∧ (ra = none → rc = 0) ∧ rn ≤ rc ∧ rc ≤ 9223372036854775807 ∧ Dats w Q D ∧ NetV wr x (pkL Q D) [] ∧ NOk (pkL Q D) [] ∧ wr.heap[X]? = some (.cells #[.slice x.1.1 x.1.2.1 x.1.2.2, .slice x.2.1 x.2.2.1 x.2.2.2] 25 (0, 0)) ∧ Below w.heap.size w wr) (fun s _ _ => match s with | .slice _ n _ => n | _ => 0)
      case atStart => exact ⟨_, _, _, _, _, _, _, ((qa, qn, qc), (none, 0, 0)), 0, by omega, rfl, rfl, hlen, HB.out.2.2.2.1, hrz, hrc, hrm', HD.out, HB.out.2.2.1, HB.out.2.2.2.2, HB.out.1, HB.out.2.1⟩
      case round =>
        clear HB HD HLN
        obtain ⟨ra, rn, rc, rb, ro, Q, D, ⟨⟨a0, n0, c0⟩, ⟨b0, m0, d0⟩⟩, i, hi, rfl, rfl, hrn, hRk, hrz, hrc, hrm, hD2, hN, hok, hXb, hlo⟩ := hrel
        have hXl := (Array.getElem?_eq_some_iff.1 hXb).1
        dsimp only [vN] at *
        by_cases hr0 : 0 < rn
        case neg =>
          have hln := hN.lenQ
          rw [pkL_len hD2.len, hRk.1] at hln
          dsimp only at hln
          obtain rfl : rn = 0 := by omega
          subst hln
          have z1 : decide (((0 : Nat) : Int) > 0) = false := by simp
          have e0 := blk_cell hXb 0
          simp at e0
          have HZ := Lib.hid hlo
          clear hRk hD2 hN hok hXb hlo
          go_wp2
          exact bodyPost_ret (v := .bool true) (by simp [results, Try.results6, go_sem]) rfl ⟨rfl, HZ.out⟩
        have z1 : decide ((rn : Int) > 0) = true := decide_eq_true (by omega)
        obtain rfl := (hRk.2.1 hr0).1
        have HB0 := Lib.hid (show _ ∧ _ ∧ _ ∧ _ ∧ _ ∧ _ from ⟨hXb, hlo, hN, hRk, hD2, hok⟩)
        clear hXb hlo hN hRk hD2 hok
        go_upto_if 54 with fail
        clear z1
        go_cut [11] from 46 to 91 (fun o wx => ∃ k : Nat, k < rn ∧ o = .int .i64 k ∧ wx = wr)
        case first =>
          by_cases hio : i < on
          case neg =>
            have z1 : decide ((i : Int) < (on : Int)) = false := decide_eq_false (by omega)
            go_wp2
            go_meet
            case rel => exact ⟨0, hr0, rfl, rfl⟩
          have z1 : decide ((i : Int) < (on : Int)) = true := decide_eq_true (by omega)
          have hR' := HA.out.2.2.1.below HB0.out.2.1 (Nat.le_refl _)
          obtain rfl := hR'.adr (Nat.lt_of_le_of_lt (Nat.zero_le i) hio)
          have hci := hR'.cel i hio
          have hzi := hz i hio
          clear hR'
          obtain ⟨v, hv⟩ : ∃ v : Nat, zo.getD i 0 = (v : Int) := ⟨(zo.getD i 0).toNat, by omega⟩
          rw [hv] at hci hzi
          clear hv
          have hw1 : IntKind.i64.wrap (v : Int) = (v : Int) := by rw [IntKind.wrap_i64]; omega
          have hrn0 : ((rn : Int) == 0) = false := by simp; omega
          go_wp2
          go_meet
          case rel => exact ⟨v % rn, Nat.mod_lt _ hr0, by simp, rfl⟩
        obtain ⟨k, hk, rfl, hwc⟩ := hcut
        subst wc
        have hkQ : k < Q.length := by rw [HB0.out.2.2.2.1.1]; exact hk
        obtain ⟨y, hy⟩ : ∃ y, y = nthK Q k := ⟨_, rfl⟩
        obtain ⟨y0, y1, ya, yn, yc⟩ := y
        obtain ⟨m, hm⟩ : ∃ m, m = pk (nthK Q k) (nthD D k) := ⟨_, rfl⟩
        have HP := Lib.hid (show PkV wr (y0, y1, ya, yn, yc) m from by rw [hy, hm]; exact ⟨nthD D k, (HB0.out.2.2.2.2.1.grown HB0.out.2.1).dat k hkQ, rfl⟩)
        have hask : askS (pkL Q D) [] (k : Int) = 0 := by
          have hkL : k < (pkL Q D).length := by rw [pkL_len HB0.out.2.2.2.2.1.len]; exact hkQ
          unfold askS; rw [if_pos HB0.out.2.2.2.2.2, if_pos ⟨by omega, by omega⟩]
        have hgd : (pkL Q D).getD k zP = m := by rw [hm]; exact getD_pk HB0.out.2.2.2.2.1.len hkQ
        have HS := Lib.hid (show askS (pkL Q D) [] (k : Int) = 0 ∧ (if askS (pkL Q D) [] (k : Int) = 0 then delS [] ((pkL Q D).getD (k : Int).toNat zP) else zP) = m ∧ loseS (pkL Q D) [] (k : Int) = (0, (pkL Q D).eraseIdx k, []) from ⟨hask, by rw [if_pos hask, Int.toNat_natCast, hgd]; unfold delS; rw [if_neg (by simp)], by unfold loseS; rw [if_pos hask, Int.toNat_natCast]⟩)
        have HY := Lib.hid hy
        clear hy hm hask hgd
        have HB := Lib.hid (show _ ∧ _ ∧ _ ∧ _ ∧ _ from ⟨HB0.out.1, HB0.out.2.1, HB0.out.2.2.1, HB0.out.2.2.2.1, HP.out⟩)
        clear HP
        have x00 := blk_cell HB.out.1 0
        have x01 := blk_cell HB.out.1 1
        simp at x00 x01
        go_wp2_with fail
        clear x00 x01
        refine (deliver_s ((a0, n0, c0), (b0, m0, d0)) (pkL Q D) [] (k : Int) wr HB.out.2.2.1).mono ?_
        rintro e Wb1 ⟨⟨k10, k11, ka1, kn1, kc1⟩, ⟨⟨a1, n1, c1⟩, ⟨b1, m1, d1⟩⟩, rfl, hK, hN, hb⟩
        rw [HS.out.2.1] at hK
        rw [HS.out.2.2] at hN
        simp only [HS.out.1]
        have hsWb1 := hb.size
        have Hb1 := Lib.hid (show _ ∧ _ ∧ _ ∧ _ ∧ _ ∧ _ ∧ _ from ⟨blk_below HB.out.1 hb (Array.getElem?_eq_some_iff.1 HB.out.1).1, below_after HB.out.2.1 hb HB.out.2.1.size, HB.out.2.2.1.grown hb, HB.out.2.2.2.1.grown hb, HB.out.2.2.2.2.grown hb, hK, hN⟩)
        clear HB
        clear hb
        dsimp only [vK, vN] at *
        clear hK hN
        go_upto_region 21 with fail
        have hb : Below Wb1.heap.size Wb1 ((Wb1.alloc (.cells #[.int .i64 k10, .int .i64 k11, .slice ka1 kn1 kc1] 28)).alloc (.cells #[.slice a1 n1 c1, .slice b1 m1 d1] 25)) := by go_grown
        have hk1 : ((Wb1.alloc (.cells #[.int .i64 k10, .int .i64 k11, .slice ka1 kn1 kc1] 28)).alloc (.cells #[.slice a1 n1 c1, .slice b1 m1 d1] 25)).heap[Wb1.heap.size]? = some (.cells #[.int .i64 k10, .int .i64 k11, .slice ka1 kn1 kc1] 28 (0, 0)) := blk_alloc (blk_new _ _) _
        have hk2 : ((Wb1.alloc (.cells #[.int .i64 k10, .int .i64 k11, .slice ka1 kn1 kc1] 28)).alloc (.cells #[.slice a1 n1 c1, .slice b1 m1 d1] 25)).heap[Wb1.heap.size + 1]? = some (.cells #[.slice a1 n1 c1, .slice b1 m1 d1] 25 (0, 0)) := by have := blk_new (Wb1.alloc (.cells #[.int .i64 k10, .int .i64 k11, .slice ka1 kn1 kc1] 28)) (.cells #[.slice a1 n1 c1, .slice b1 m1 d1] 25); rwa [World.size_alloc] at this
        have Hb2 := Lib.hid (show _ ∧ _ ∧ _ ∧ _ ∧ _ ∧ _ ∧ _ ∧ _ ∧ _ from ⟨blk_below Hb1.out.1 hb (Array.getElem?_eq_some_iff.1 Hb1.out.1).1, below_after Hb1.out.2.1 hb Hb1.out.2.1.size, Hb1.out.2.2.1.grown hb, Hb1.out.2.2.2.1.grown hb, Hb1.out.2.2.2.2.1.grown hb, Hb1.out.2.2.2.2.2.1.grown hb, Hb1.out.2.2.2.2.2.2.grown hb, hk1, hk2⟩)
        clear Hb1
        have hsWb2 : Wb1.heap.size + 2 ≤ ((Wb1.alloc (.cells #[.int .i64 k10, .int .i64 k11, .slice ka1 kn1 kc1] 28)).alloc (.cells #[.slice a1 n1 c1, .slice b1 m1 d1] 25)).heap.size := by simp
        clear hb hk1 hk2
        generalize hzWb2 : ((Wb1.alloc (.cells #[.int .i64 k10, .int .i64 k11, .slice ka1 kn1 kc1] 28)).alloc (.cells #[.slice a1 n1 c1, .slice b1 m1 d1] 25)) = Wb2 at *
        clear hzWb2
        have g0 := blk_cell Hb2.out.2.2.2.2.2.2.2.1 0
        have g1 := blk_cell Hb2.out.2.2.2.2.2.2.2.1 1
        have g2 := blk_cell Hb2.out.2.2.2.2.2.2.2.1 2
        simp at g0 g1 g2
        have hcc := Hb2.out.2.2.2.1.2.2 k hk
        rw [← HY.out] at hcc
        obtain ⟨j0, j1, j2⟩ := hcc
        dsimp only at j0 j1 j2
        replace g0 := cell_regrown g0
        replace g1 := cell_regrown g1
        replace g2 := cell_regrown g2
        replace j0 := cell_regrown j0
        replace j1 := cell_regrown j1
        replace j2 := cell_regrown j2
        have zk : ((0 : Int) != 0) = false := by simp

        refine wp_region_quiet_below (by kernel_rfl) (by kernel_rfl) ?_
        repeat (go_big_quiet_step (((go_at_call 22; with_reducible exact Calls.regrown_of (samePk_t k10 k11 ka1 kn1 kc1 y0 y1 ya yn yc m _ (Hb2.out.2.2.2.2.2.1.grown (below_regrown Wb2 _ _)) (Hb2.out.2.2.2.2.1.grown (below_regrown Wb2 _ _)))))))
        refine wpQuiet_nil ?_
        intro Wq hb'
        have hb := of_regrown hb'
        clear hb'
        have hsq := hb.size
        clear g0 g1 g2 j0 j1 j2
        have HQ := Lib.hid (show _ ∧ _ ∧ _ ∧ _ ∧ _ from ⟨blk_below Hb2.out.1 hb (Array.getElem?_eq_some_iff.1 Hb2.out.1).1, below_after Hb2.out.2.1 hb Hb2.out.2.1.size, Hb2.out.2.2.2.1.grown hb, Hb2.out.2.2.2.2.2.2.1.grown hb, blk_below Hb2.out.2.2.2.2.2.2.2.2 hb (Array.getElem?_eq_some_iff.1 Hb2.out.2.2.2.2.2.2.2.2).1⟩)
        clear Hb2
        clear hb
        have g0 := blk_cell HQ.out.2.2.2.2 0
        have g1 := blk_cell HQ.out.2.2.2.2 1
        simp at g0 g1
        have q0 := blk_cell HQ.out.1 0
        have qf0 := blk_free HQ.out.1 0
        have q1 := blk_cell HQ.out.1 1
        have qf1 := blk_free HQ.out.1 1
        simp at q0 q1
        go_upto_region 24 with fail
        clear g0 g1 q0 q1 qf0 qf1
        have hsWb3 : Wq.heap.size ≤ ((Wq.setCell ⟨X, 0, none⟩ (.slice a1 n1 c1)).setCell ⟨X, 1, none⟩ (.slice b1 m1 d1)).heap.size := by rw [World.size_setCell, World.size_setCell]; exact Nat.le_refl _
        have Hb3 := Lib.hid (show _ ∧ _ ∧ _ ∧ _ ∧ _ from ⟨boxQ_set (u0 := .slice a1 n1 c1) (u1 := .slice b1 m1 d1) HQ.out.1, boxQ_below (b := X) (u0 := .slice a1 n1 c1) (u1 := .slice b1 m1 d1) (by omega) HQ.out.2.1, HQ.out.2.2.1.box (a' := a1) (b' := n1) (c' := c1) (d' := b1) (e' := m1) (f' := d1) HQ.out.1, HQ.out.2.2.2.1.box (a' := a1) (b' := n1) (c' := c1) (d' := b1) (e' := m1) (f' := d1) HQ.out.1, boxQ_far (b := X) (u0 := .slice a1 n1 c1) (u1 := .slice b1 m1 d1) (q := Wb1.heap.size + 1) (by omega) HQ.out.2.2.2.2⟩)
        clear HQ
        generalize hzWb3 : ((Wq.setCell ⟨X, 0, none⟩ (.slice a1 n1 c1)).setCell ⟨X, 1, none⟩ (.slice b1 m1 d1)) = Wb3 at *
        clear hzWb3
        obtain ⟨J, hJ⟩ : ∃ J : Nat, J = k + 1 := ⟨_, rfl⟩
        have hq1 : k ≤ rc := by omega
        have hq1' : ¬ rc < k := by omega
        have hq2 : J ≤ rn := by omega
        have hk3 : ¬ rn < J := by omega
        have hk4 : ¬ rc < rn := by omega
        have hw : IntKind.i64.wrap ((k : Int) + 1) = (J : Int) := by rw [IntKind.wrap_i64]; omega
        have hJn : (J : Int) ≤ rn := by omega
        have hJ0 : (0 : Int) ≤ J := by omega
        have HJ := Lib.hid hJ
        clear hJ
        refine wp_region_dagT 9 [⟨0, 82, [], fun v w' => (∃ g, v = .slice (some ⟨g, 0, none⟩) 0 0) ∧ KsO w' Wb3.heap.size v [], fun _ _ _ hb h => ⟨h.1, h.2.below hb (Nat.le_refl _)⟩, false⟩,
            Nd.lit 1 83 (.slice (some ⟨rb, ro, none⟩) rn rc),
            Nd.lit 2 84 (.int .i64 k),
            Nd.lit 3 85 (.slice (some ⟨rb, ro, none⟩) k rc) [1, 2],
            ⟨4, 86, [0, 3], fun v w' => KsO w' Wb3.heap.size v (Q.take k), fun _ _ _ hb h => h.below hb (Nat.le_refl _), false⟩,
            Nd.lit 5 87 (.slice (some ⟨rb, ro, none⟩) rn rc),
            Nd.lit 6 88 (.int .i64 k),
            Nd.lit 7 89 (.int .i64 J) [6],
            ⟨8, 90, [5, 7], fun v w' => ∃ a3 b3 o3, v = .slice a3 (rn - J) (rc - J) ∧ Ks w' a3 (rn - J) b3 o3 (Q.drop J) ∧ (a3 = none → rc - J = 0), fun _ _ _ hb h => by
                obtain ⟨a3, b3, o3, h1, h2, h3⟩ := h
                exact ⟨a3, b3, o3, h1, h2.grown hb, h3⟩, false⟩] (by kernel_rfl) (by kernel_rfl) (by rfl) (by kernel_rfl) (by kernel_rfl) (by kernel_rfl) (by rintro _ _ _ (_ | _) _ h <;> exact h) ?_ ?_
        · refine ⟨?_, ?_, ?_, ?_, ?_, ?_, ?_, ?_, ?_, trivial⟩
          · unfold ObN
            simp only [List.getElem?_toArray, List.getElem?_cons_zero]
            intro w' hC
            refine Or.inl ⟨rfl, fun K' Q' hK => ?_⟩
            go_simp
            exact hK _ _ (by go_grown) ⟨⟨_, rfl⟩, (KsO.empty _).mono hC.size⟩
          · unfold ObN
            simp only [List.getElem?_toArray, List.getElem?_cons_succ, List.getElem?_cons_zero]
            intro w' hC
            refine Or.inl ⟨rfl, fun K' Q' hK => ?_⟩
            go_simp
            exact hK _ _ (Below.refl _ _) rfl
          · unfold ObN
            simp only [List.getElem?_toArray, List.getElem?_cons_succ, List.getElem?_cons_zero]
            intro w' hC
            refine Or.inl ⟨rfl, fun K' Q' hK => ?_⟩
            go_simp
            exact hK _ _ (Below.refl _ _) rfl
          · unfold ObN
            simp only [List.getElem?_toArray, List.getElem?_cons_succ, List.getElem?_cons_zero]
            intro w' hC
            rintro _ rfl
            rintro _ rfl
            refine Or.inl ⟨rfl, fun K' Q' hK => ?_⟩
            go_simp
            exact hK _ _ (Below.refl _ _) rfl
          · unfold ObN
            simp only [List.getElem?_toArray, List.getElem?_cons_succ, List.getElem?_cons_zero]
            intro w' hC
            rintro _ ⟨⟨g0, rfl⟩, h0⟩
            rintro _ rfl
            refine Or.inl ⟨rfl, fun K' Q' hK => ?_⟩
            exact wp_append_litK (.tmp 82) (.tmp 85) rfl Wb3.heap.size g0 (by rfl) h0 (some ⟨rb, ro, none⟩) rb ro k rc (Q.take k) (by rfl) ((Hb3.out.2.2.1.grown hC).pre (by omega)) (fun h => by cases h) (by omega) hC.size fun v' w2 h1 h2 => hK _ _ h2 h1
          · unfold ObN
            simp only [List.getElem?_toArray, List.getElem?_cons_succ, List.getElem?_cons_zero]
            intro w' hC
            refine Or.inl ⟨rfl, fun K' Q' hK => ?_⟩
            go_simp
            exact hK _ _ (Below.refl _ _) rfl
          · unfold ObN
            simp only [List.getElem?_toArray, List.getElem?_cons_succ, List.getElem?_cons_zero]
            intro w' hC
            refine Or.inl ⟨rfl, fun K' Q' hK => ?_⟩
            go_simp
            exact hK _ _ (Below.refl _ _) rfl
          · unfold ObN
            simp only [List.getElem?_toArray, List.getElem?_cons_succ, List.getElem?_cons_zero]
            intro w' hC
            rintro _ rfl
            refine Or.inl ⟨rfl, fun K' Q' hK => ?_⟩
            go_simp
            exact hK _ _ (Below.refl _ _) rfl
          · unfold ObN
            simp only [List.getElem?_toArray, List.getElem?_cons_succ, List.getElem?_cons_zero]
            intro w' hC
            rintro _ rfl
            rintro _ rfl
            refine Or.inl ⟨rfl, fun K' Q' hK => ?_⟩
            obtain ⟨b3, o3, hp1, hp2⟩ := (Hb3.out.2.2.1.grown hC).post (k := J) (by omega) hrc (fun h => by cases h)
            by_cases hcj : rc = J
            · rw [if_pos hcj] at hp1 hp2
              have hJq : rn - J = 0 := by omega
              have hJq' : rc - J = 0 := by omega
              subst hcj
              go_simp
              exact hK _ _ (Below.refl _ _) ⟨_, _, _, by rw [hJq, Nat.sub_self], hp1, hp2⟩
            · rw [if_neg hcj] at hp1 hp2
              rw [show (some (⟨rb, ro, none⟩ : Addr)).map (·.add (J * 3)) = some ⟨rb, ro + J * 3, none⟩ from by show some (Addr.add ⟨rb, ro, none⟩ (J * 3)) = _; rw [Go.WideShapes.add_plain]] at hp1 hp2
              go_simp
              exact hK _ _ (Below.refl _ _) ⟨_, _, _, rfl, hp1, hp2⟩
        · intro w' hC
          rintro _ ⟨⟨g0, rfl⟩, h0⟩ _ rfl _ rfl _ rfl v5 h5 _ rfl _ rfl _ rfl v10 ⟨a3, b3, o3, rfl, h10, hz10⟩
          unfold overN
          simp only [List.drop_succ_cons, List.drop_zero, Act.put, List.setIfInBounds_toArray, List.set_cons_succ, List.set_cons_zero]
          have HTL := Lib.hid (show (Q.take k).length = k from by rw [List.length_take]; omega)
          have HDL := Lib.hid (show (Q.take k ++ Q.drop J).length = rn - 1 from by have h1 : Q.length = rn := Hb3.out.2.2.1.1; have h2 := HJ.out; rw [List.length_append, List.length_take, List.length_drop]; omega)
          have H3 := Lib.hid (show _ ∧ _ ∧ _ ∧ _ ∧ _ from ⟨h5, h10, hz10, hC.size, hC⟩)
          clear h0 h5 h10 hz10 hC
          have hsl := Hb3.out.2.1.size
          go_wp2_with (at_builtin; go_loud (refine wpList_append_Ks rfl (.tmp 86) (.tmp 90) rfl Wb3.heap.size v5 (Q.take k) (by rfl) H3.out.1 a3 b3 o3 (rn - J) (rc - J) (Q.drop J) (by rfl) H3.out.2.1 H3.out.2.2.1 (by rw [HTL.out]; omega) H3.out.2.2.2.1 ?_; intro v6 w6 hO6 hB6 _; obtain ⟨va, vb, vc, rfl, hV⟩ := hO6.s; rw [HDL.out] at hV ⊢; have HV := Lib.hid (show _ ∧ _ from ⟨hV, hB6⟩); clear hO6 hB6 hV))
          go_roundw
          case rel =>
            have hb := H3.out.2.2.2.2.trans HV.out.2
            have hl := HB0.out.2.2.2.2.1.len
            have he := pkL_del Q D hl k
            rw [← HJ.out] at he
            have hn1 := Hb3.out.2.2.2.1.grown hb
            rw [← he] at hn1
            have hnk : NOk (pkL (Q.take k ++ Q.drop J) (D.take k ++ D.drop J)) [] := by
              rw [he]
              have h0 := HB0.out.2.2.2.2.2
              exact ⟨Nat.le_trans (List.length_eraseIdx_le _ _) h0.1, fun m hm => h0.2.1 m (List.mem_of_mem_eraseIdx hm), h0.2.2⟩
            have hmx := HV.out.1.2.2.2.2
            unfold maxLen at hmx
            exact ⟨va, rn - 1, vc, vb, 0, Q.take k ++ Q.drop J, D.take k ++ D.drop J, ((a1, n1, c1), (b1, m1, d1)), i + 1, by omega, rfl, by go_num, by omega, HV.out.1.1, HV.out.1.2.2.1, HV.out.1.2.2.2.1, by omega, (HB0.out.2.2.2.2.1.tk k).app (HB0.out.2.2.2.2.1.dr J), hn1, hnk, blk_below Hb3.out.1 hb (Array.getElem?_eq_some_iff.1 Hb3.out.1).1, below_after Hb3.out.2.1 hb Hb3.out.2.1.size⟩
          case measure => simp only []; omega
    obtain rfl := (HA.out.1.2.1 (show 0 < sn by omega)).1
    obtain ⟨hq1, hq2, hq3⟩ := hqb
    have z1 : decide ((j : Int) < (sn : Int)) = true := decide_eq_true (by omega)
    obtain ⟨y, hy⟩ : ∃ y, y = nthK Ql j := ⟨_, rfl⟩
    obtain ⟨k0, k1, ka, kn, kc⟩ := y
    obtain ⟨j0, j1, j2⟩ := (HA.out.1.grown hlo).2.2 j hjs
    rw [← hy] at j0 j1 j2
    dsimp only at j0 j1 j2
    have HS := Lib.hid (show DatR w (ka, kn, kc) (nthD Dl j) from by have := HA.out.2.1.dat j (by rw [HA.out.2.2.2]; exact hjs); rw [← hy] at this; exact this)
    have HY := Lib.hid hy
    clear hy
    have hNk : NetOk Q [] := (netOk_iff hDr).2 ⟨by rw [pkL_len hDr.len]; omega, hok, fun i hi => by simp at hi⟩
    have HX := Lib.hid (show _ ∧ _ ∧ _ ∧ _ ∧ _ ∧ _ ∧ _ ∧ _ from ⟨hXb, hlo, hKn, hKr, hDr, hok, hsep, hNk⟩)
    have y0 := blk_cell hXb 0; have y1 := blk_cell hXb 1
    simp at y0 y1
    have hq96 : Q.length ≠ 4096 := by omega
    clear hXb hlo hKn hKr hDr hok hsep hNk
    go_upto_region 10 with fail
    clear z1
    by_cases hkk : okK (k0, k1, ka, kn, kc)
    case neg =>
      refine wp_region_dagT 10 [Nd.lit 0 28 (.agg #[.slice qa qn qc, .slice none 0 0]),
          Nd.lit 1 29 (.slice (some ⟨sb, so, none⟩) sn sc),
          Nd.lit 2 30 (.int .i64 j),
          Nd.lit 3 31 (.pointer (some ⟨sb, so + j * 3, none⟩)) [1, 2],
          Nd.lit 4 32 (.agg #[.int .i64 k0, .int .i64 k1, .slice ka kn kc]) [3],
          ⟨5, 33, [0, 4], fun v w' => v = .tuple #[.agg #[.slice none 0 0, .slice none 0 0], .int .i64 60], fun _ _ _ _ h => h, false⟩,
          Nd.lit 6 27 (.tuple #[.agg #[.slice none 0 0, .slice none 0 0], .int .i64 60]) [5],
          Nd.lit 7 34 (.agg #[.slice none 0 0, .slice none 0 0]) [6],
          Nd.late 8 35 (.int .i64 60) [6],
          ⟨9, 8, [], fun v w' => ∃ g, v = .pointer (some ⟨g, 0, none⟩) ∧ w'.heap[g]? = some (.cells #[.slice none 0 0, .slice none 0 0] 25 (0, 0)) ∧ wr.heap.size ≤ g, fun _ _ _ hb h => by
              obtain ⟨g, h1, h2, h3⟩ := h
              exact ⟨g, h1, blk_below h2 hb (Array.getElem?_eq_some_iff.1 h2).1, h3⟩, false⟩] (by kernel_rfl) (by kernel_rfl) (by rfl) (by kernel_rfl) (by kernel_rfl) (by kernel_rfl) (by rintro _ _ _ (_ | _) _ h <;> exact h) ?_ ?_
      · refine ⟨?_, ?_, ?_, ?_, ?_, ?_, ?_, ?_, ?_, ?_, trivial⟩
        · unfold ObN
          simp only [List.getElem?_toArray, List.getElem?_cons_zero]
          intro w' hC
          refine Or.inl ⟨rfl, fun K' Q' hK => ?_⟩
          have y0 := cell_bel hC y0
          have y1 := cell_bel hC y1
          go_simp
          exact hK _ _ (Below.refl _ _) rfl
        · unfold ObN
          simp only [List.getElem?_toArray, List.getElem?_cons_succ, List.getElem?_cons_zero]
          intro w' hC
          refine Or.inl ⟨rfl, fun K' Q' hK => ?_⟩
          go_simp
          exact hK _ _ (Below.refl _ _) rfl
        · unfold ObN
          simp only [List.getElem?_toArray, List.getElem?_cons_succ, List.getElem?_cons_zero]
          intro w' hC
          refine Or.inl ⟨rfl, fun K' Q' hK => ?_⟩
          go_simp
          exact hK _ _ (Below.refl _ _) rfl
        · unfold ObN
          simp only [List.getElem?_toArray, List.getElem?_cons_succ, List.getElem?_cons_zero]
          intro w' hC
          rintro _ rfl
          rintro _ rfl
          refine Or.inl ⟨rfl, fun K' Q' hK => ?_⟩
          go_simp
          exact hK _ _ (Below.refl _ _) rfl
        · unfold ObN
          simp only [List.getElem?_toArray, List.getElem?_cons_succ, List.getElem?_cons_zero]
          intro w' hC
          rintro _ rfl
          refine Or.inl ⟨rfl, fun K' Q' hK => ?_⟩
          have y0 := cell_bel hC j0
          have y1 := cell_bel hC j1
          have y2 := cell_bel hC j2
          go_simp
          exact hK _ _ (Below.refl _ _) rfl
        · unfold ObN
          simp only [List.getElem?_toArray, List.getElem?_cons_succ, List.getElem?_cons_zero]
          intro w' hC
          rintro _ rfl
          rintro _ rfl
          refine Or.inl ⟨rfl, fun K' Q' hK => ?_⟩
          go_simp
          refine (send_any qa qn qc qb qo Q none 0 0 0 0 [] (k0, k1, ka, kn, kc) w' (HX.out.2.2.1.grown hC) (Qs.zero _ _) (by omega) (by omega) hq1 hq2 hq3).mono ?_
          rintro e w2 (⟨g, rfl, hb⟩ | ⟨g, _⟩)
          · exact hK _ _ hb rfl
          · exact absurd g.2 hkk
        · unfold ObN
          simp only [List.getElem?_toArray, List.getElem?_cons_succ, List.getElem?_cons_zero]
          intro w' hC
          rintro _ rfl
          refine Or.inl ⟨rfl, fun K' Q' hK => ?_⟩
          go_simp
          exact hK _ _ (Below.refl _ _) rfl
        · unfold ObN
          simp only [List.getElem?_toArray, List.getElem?_cons_succ, List.getElem?_cons_zero]
          intro w' hC
          rintro _ rfl
          refine Or.inl ⟨rfl, fun K' Q' hK => ?_⟩
          go_simp
          exact hK _ _ (Below.refl _ _) rfl
        · unfold ObN
          simp only [List.getElem?_toArray, List.getElem?_cons_succ, List.getElem?_cons_zero]
          intro w' hC
          rintro _ rfl
          refine ⟨by first | rfl | trivial, _, fun _ => rfl, fun w9 => ?_⟩
          go_simp
        · unfold ObN
          simp only [List.getElem?_toArray, List.getElem?_cons_succ, List.getElem?_cons_zero]
          intro w' hC
          refine Or.inl ⟨rfl, fun K' Q' hK => ?_⟩
          go_simp
          exact hK _ _ (by go_grown) ⟨_, rfl, blk_new _ _, hC.size⟩
      · intro w' hC
        rintro _ rfl _ rfl _ rfl _ rfl _ rfl _ rfl _ rfl _ rfl _ rfl v9 ⟨g, rfl, hg, hgs⟩
        unfold overN
        simp only [List.drop_succ_cons, List.drop_zero, Act.put, List.setIfInBounds_toArray, List.set_cons_succ, List.set_cons_zero]
        have e0 := blk_cell hg 0; have e1 := blk_cell hg 1; have f0 := blk_free hg 0; have f1 := blk_free hg 1
        simp at e0 e1
        clear y0 y1 j0 j1 j2
        go_upto_region 11 with fail
        clear e0 e1 f0 f1
        have hb : Below wr.heap.size wr ((w'.setCell ⟨g, 0, none⟩ (.slice none 0 0)).setCell ⟨g, 1, none⟩ (.slice none 0 0)) := boxQ_below hgs hC
        have HC := Lib.hid hb
        clear hb hg hgs hC
        go_wp2
        go_roundw
        case rel => exact ⟨j + 1, by omega, by go_num, Q, D, qa, qn, qc, qb, qo, HX.out.2.2.1.grown HC.out, HX.out.2.2.2.1.below HC.out (Nat.le_refl _), HX.out.2.2.2.2.1, HX.out.2.2.2.2.2.1, by omega, HX.out.2.2.2.2.2.2.1, blk_below HX.out.1 HC.out hXl, ⟨hq1, hq2, hq3⟩, below_after HX.out.2.1 HC.out HX.out.2.1.size⟩
        case measure => simp [intOf] <;> omega
    refine wp_region_dagT 10 [Nd.lit 0 28 (.agg #[.slice qa qn qc, .slice none 0 0]),
        Nd.lit 1 29 (.slice (some ⟨sb, so, none⟩) sn sc),
        Nd.lit 2 30 (.int .i64 j),
        Nd.lit 3 31 (.pointer (some ⟨sb, so + j * 3, none⟩)) [1, 2],
        Nd.lit 4 32 (.agg #[.int .i64 k0, .int .i64 k1, .slice ka kn kc]) [3],
        ⟨5, 33, [0, 4], fun v w' => ∃ v2, v = .tuple #[.agg #[v2, .slice none 0 0], .int .i64 0] ∧ KsO w' wr.heap.size v2 (Q ++ [(k0, k1, ka, kn, kc)]), fun _ _ _ hb h => by
            obtain ⟨v2, h1, h2⟩ := h
            exact ⟨v2, h1, h2.below hb (Nat.le_refl _)⟩, false⟩,
        ⟨6, 27, [5], fun v w' => ∃ v2, v = .tuple #[.agg #[v2, .slice none 0 0], .int .i64 0] ∧ KsO w' wr.heap.size v2 (Q ++ [(k0, k1, ka, kn, kc)]), fun _ _ _ hb h => by
            obtain ⟨v2, h1, h2⟩ := h
            exact ⟨v2, h1, h2.below hb (Nat.le_refl _)⟩, false⟩,
        ⟨7, 34, [6], fun v w' => ∃ v2, v = .agg #[v2, .slice none 0 0] ∧ KsO w' wr.heap.size v2 (Q ++ [(k0, k1, ka, kn, kc)]), fun _ _ _ hb h => by
            obtain ⟨v2, h1, h2⟩ := h
            exact ⟨v2, h1, h2.below hb (Nat.le_refl _)⟩, false⟩,
        Nd.late 8 35 (.int .i64 0) [6],
        ⟨9, 8, [], fun v w' => ∃ g, v = .pointer (some ⟨g, 0, none⟩) ∧ w'.heap[g]? = some (.cells #[.slice none 0 0, .slice none 0 0] 25 (0, 0)) ∧ wr.heap.size ≤ g, fun _ _ _ hb h => by
            obtain ⟨g, h1, h2, h3⟩ := h
            exact ⟨g, h1, blk_below h2 hb (Array.getElem?_eq_some_iff.1 h2).1, h3⟩, false⟩] (by kernel_rfl) (by kernel_rfl) (by rfl) (by kernel_rfl) (by kernel_rfl) (by kernel_rfl) (by rintro _ _ _ (_ | _) _ h <;> exact h) ?_ ?_
    · refine ⟨?_, ?_, ?_, ?_, ?_, ?_, ?_, ?_, ?_, ?_, trivial⟩
      · unfold ObN
        simp only [List.getElem?_toArray, List.getElem?_cons_zero]
        intro w' hC
        refine Or.inl ⟨rfl, fun K' Q' hK => ?_⟩
        have y0 := cell_bel hC y0
        have y1 := cell_bel hC y1
        go_simp
        exact hK _ _ (Below.refl _ _) rfl
      · unfold ObN
        simp only [List.getElem?_toArray, List.getElem?_cons_succ, List.getElem?_cons_zero]
        intro w' hC
        refine Or.inl ⟨rfl, fun K' Q' hK => ?_⟩
        go_simp
        exact hK _ _ (Below.refl _ _) rfl
      · unfold ObN
        simp only [List.getElem?_toArray, List.getElem?_cons_succ, List.getElem?_cons_zero]
        intro w' hC
        refine Or.inl ⟨rfl, fun K' Q' hK => ?_⟩
        go_simp
        exact hK _ _ (Below.refl _ _) rfl
      · unfold ObN
        simp only [List.getElem?_toArray, List.getElem?_cons_succ, List.getElem?_cons_zero]
        intro w' hC
        rintro _ rfl
        rintro _ rfl
        refine Or.inl ⟨rfl, fun K' Q' hK => ?_⟩
        go_simp
        exact hK _ _ (Below.refl _ _) rfl
      · unfold ObN
        simp only [List.getElem?_toArray, List.getElem?_cons_succ, List.getElem?_cons_zero]
        intro w' hC
        rintro _ rfl
        refine Or.inl ⟨rfl, fun K' Q' hK => ?_⟩
        have y0 := cell_bel hC j0
        have y1 := cell_bel hC j1
        have y2 := cell_bel hC j2
        go_simp
        exact hK _ _ (Below.refl _ _) rfl
      · unfold ObN
        simp only [List.getElem?_toArray, List.getElem?_cons_succ, List.getElem?_cons_zero]
        intro w' hC
        rintro _ rfl
        rintro _ rfl
        refine Or.inl ⟨rfl, fun K' Q' hK => ?_⟩
        go_simp
        refine (send_any qa qn qc qb qo Q none 0 0 0 0 [] (k0, k1, ka, kn, kc) w' (HX.out.2.2.1.grown hC) (Qs.zero _ _) (by omega) (by omega) hq1 hq2 hq3).mono ?_
        rintro e w2 (⟨g, rfl, hb⟩ | ⟨g, ⟨g2, rfl, hb⟩ | ⟨g2, v, rfl, hO, hb⟩⟩)
        · exact absurd ⟨HX.out.2.2.2.2.2.2.2, hkk⟩ g
        · omega
        · exact hK _ _ hb ⟨v, rfl, hO.mono hC.size⟩
      · unfold ObN
        simp only [List.getElem?_toArray, List.getElem?_cons_succ, List.getElem?_cons_zero]
        intro w' hC
        rintro _ ⟨v2, rfl, hO⟩
        refine Or.inl ⟨rfl, fun K' Q' hK => ?_⟩
        go_simp
        exact hK _ _ (Below.refl _ _) ⟨v2, rfl, hO⟩
      · unfold ObN
        simp only [List.getElem?_toArray, List.getElem?_cons_succ, List.getElem?_cons_zero]
        intro w' hC
        rintro _ ⟨v2, rfl, hO⟩
        refine Or.inl ⟨rfl, fun K' Q' hK => ?_⟩
        go_simp
        exact hK _ _ (Below.refl _ _) ⟨v2, rfl, hO⟩
      · unfold ObN
        simp only [List.getElem?_toArray, List.getElem?_cons_succ, List.getElem?_cons_zero]
        intro w' hC
        rintro _ ⟨v2, rfl, hO⟩
        refine ⟨by first | rfl | trivial, _, fun _ => rfl, fun w9 => ?_⟩
        go_simp
      · unfold ObN
        simp only [List.getElem?_toArray, List.getElem?_cons_succ, List.getElem?_cons_zero]
        intro w' hC
        refine Or.inl ⟨rfl, fun K' Q' hK => ?_⟩
        go_simp
        exact hK _ _ (by go_grown) ⟨_, rfl, blk_new _ _, hC.size⟩
    · intro w' hC
      rintro _ rfl _ rfl _ rfl _ rfl _ rfl v5 - v6 - v7 ⟨v2, rfl, hO⟩ _ rfl v9 ⟨g, rfl, hg, hgs⟩
      obtain ⟨va, vb, vc, rfl, hV⟩ := hO.s
      generalize hvn : (Q ++ [(k0, k1, ka, kn, kc)]).length = vn at *
      unfold overN
      simp only [List.drop_succ_cons, List.drop_zero, Act.put, List.setIfInBounds_toArray, List.set_cons_succ, List.set_cons_zero]
      have e0 := blk_cell hg 0; have e1 := blk_cell hg 1; have f0 := blk_free hg 0; have f1 := blk_free hg 1
      simp at e0 e1
      clear y0 y1 j0 j1 j2
      go_upto_region 11 with fail
      clear e0 e1 f0 f1
      have hb : Below wr.heap.size wr ((w'.setCell ⟨g, 0, none⟩ (.slice va vn vc)).setCell ⟨g, 1, none⟩ (.slice none 0 0)) := boxQ_below hgs hC
      have hk := boxQ_set (u0 := .slice va vn vc) (u1 := .slice none 0 0) hg
      have hO' := hO.box (u0 := .slice va vn vc) (u1 := .slice none 0 0) hg
      have hgl := hb.size
      have HW := Lib.hid (show _ ∧ _ ∧ _ ∧ _ ∧ _ from ⟨blk_below HX.out.1 hb hXl, below_after HX.out.2.1 hb HX.out.2.1.size, hO', HX.out.2.2.2.1.below hb (Nat.le_refl _), hk⟩)
      have HVN := Lib.hid hvn
      clear hb hk hO' hg hC hO hV hvn
      generalize ((w'.setCell ⟨g, 0, none⟩ (.slice va vn vc)).setCell ⟨g, 1, none⟩ (.slice none 0 0)) = WZ at *
      have e0 := blk_cell HW.out.2.2.2.2 0; have e1 := blk_cell HW.out.2.2.2.2 1
      have x0 := blk_cell HW.out.1 0; have x1 := blk_cell HW.out.1 1; have f0 := blk_free HW.out.1 0; have f1 := blk_free HW.out.1 1
      simp at e0 e1 x0 x1
      go_upto_region 13 with fail
      clear e0 e1 x0 x1 f0 f1
      have HZ := Lib.hid (show _ ∧ _ ∧ _ ∧ _ from ⟨boxQ_set (u0 := .slice va vn vc) (u1 := .slice none 0 0) HW.out.1, boxQ_below (b := X) (u0 := .slice va vn vc) (u1 := .slice none 0 0) hwX HW.out.2.1, HW.out.2.2.1.box (u0 := .slice va vn vc) (u1 := .slice none 0 0) HW.out.1, HW.out.2.2.2.1.box (u0 := .slice va vn vc) (u1 := .slice none 0 0) HW.out.1⟩)
      have hsz : WZ.heap.size = ((WZ.setCell ⟨X, 0, none⟩ (.slice va vn vc)).setCell ⟨X, 1, none⟩ (.slice none 0 0)).heap.size := by rw [World.size_setCell, World.size_setCell]
      generalize ((WZ.setCell ⟨X, 0, none⟩ (.slice va vn vc)).setCell ⟨X, 1, none⟩ (.slice none 0 0)) = WY at *
      obtain ⟨j0, j1, j2⟩ := (HA.out.1.grown HZ.out.2.1).2.2 j hjs
      rw [← HY.out] at j0 j1 j2
      dsimp only at j0 j1 j2
      clear HW
      go_wp2_with (at_builtin; go_loud (refine wpList_append_Kf rfl (.tmp 39) (.tmp 44) rfl (X + 1) _ Q (by rfl) (HZ.out.2.2.2.alloc _) WY.heap.size (k0, k1, ka, kn, kc) (by rfl) 28 (0, 0) (blk_new _ _) (by omega) (by simp; omega) ?_; intro g' cap' w2 hO2 hs2 hg2; have HP := Lib.hid (show _ ∧ _ ∧ _ from ⟨hO2, hs2, hg2⟩); clear hO2 hs2 hg2))
      go_roundw
      case rel =>
        obtain ⟨va', vb, vc', ev, hKs, -, hz', hc', hm'⟩ := HZ.out.2.2.1.s
        obtain ⟨g1, c1, ev1, hg1⟩ := HZ.out.2.2.1.inBlock rfl (by simp)
        cases ev
        have h4 := (hKs.2.1 (by simp)).1
        cases ev1
        obtain rfl : g1 = vb := by cases h4; rfl
        have hvb := (hKs.2.1 (by simp)).2
        have ho := HX.out.2.2.2.1.ownB
        have hs1 : some g1 ≠ Value.ownBlock _ := fun e => by
          rcases ho with h | ⟨q, h, h1, h2⟩
          · cases e.trans h
          · cases e.trans h
            omega
        have hs2 : some X ≠ Value.ownBlock _ := fun e => by
          rcases ho with h | ⟨q, h, h1, h2⟩
          · cases e.trans h
          · cases e.trans h
            omega
        have hgb := HP.out.2.2
        have hgn := HP.out.2.1
        rw [World.size_alloc] at hgn
        have hXY := (Array.getElem?_eq_some_iff.1 HZ.out.1).1
        unfold maxLen at hm'
        have hKq := (hKs.grown ((Below.refl _ _).alloc (Nat.le_refl _) _)).keep hgb (fun _ => hs1)
        refine ⟨j + 1, by omega, by go_num, Q ++ [(k0, k1, ka, kn, kc)], D ++ [nthD Dl j], _, _, _, g1, 0, hKq, ?_, HX.out.2.2.2.2.1.app (Dats.one HS.out), ?_, by rw [List.length_append]; simp; omega, ?_, ?_, ⟨hc', by omega, hz'⟩, ?_⟩
        · exact HP.out.1
        · intro m hm
          rw [pkL_app HX.out.2.2.2.2.1.len] at hm
          rcases List.mem_append.1 hm with h | h
          · exact HX.out.2.2.2.2.2.1 m h
          · rw [List.mem_singleton.1 (show m ∈ [pk (k0, k1, ka, kn, kc) (nthD Dl j)] from h)]
            exact (okK_S HS.out).1 hkk
        · intro _ e
          have e' : g1 = g' := by cases e; rfl
          rcases hgn with h | h
          · exact hs1 (by rw [e']; exact h)
          · omega
        · exact (hgb.block X (by rw [World.size_alloc]; omega) hs2).trans (blk_alloc HZ.out.1 _)
        · refine (HZ.out.2.1.alloc HZ.out.2.1.size _).grown hgb (by rw [World.size_alloc]; omega) fun k hk => ?_
          rcases ho with h | ⟨q, h, h1, h2⟩
          · cases hk.symm.trans h
          · cases hk.symm.trans h
            omega
      case measure => simp [intOf] <;> omega
end Go.Proofs.Ythgbkdaimnejeaa
