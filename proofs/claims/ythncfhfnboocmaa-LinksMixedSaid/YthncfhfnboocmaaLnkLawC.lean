/- The walk of LinksFollow (layer 13). -/
import Derived.Test.YthncfhfnboocmaaLnkLawB
import Derived.Test.YthncfhfnboocmaaLnkVM
namespace Go.Proofs.Ythncfhfnboocmaa
open Go.ChangeShapes Go.WideShapes Go.ChangeAt Go.RowKit

theorem tgt_mark {Y : Array Value} {l : List Jt} {m q t : Nat} (h : ∀ p : Nat, p < m → Y[p]? = some (.bool (decide (srcN l (p : Int) q ≠ 0)))) (ht : (nthJ l q).2.1 = t) :
    ∀ p : Nat, p < m → (Y.setIfInBounds t (.bool true))[p]? = some (.bool (decide (srcN l (p : Int) (q + 1) ≠ 0))) := by
  intro p hp
  unfold srcN
  rw [ht]
  by_cases e : t = p
  · subst e
    rw [Array.getElem?_setIfInBounds_self, if_pos (Array.getElem?_eq_some_iff.1 (h t hp)).1, if_pos rfl]
    simp
  · rw [Array.getElem?_setIfInBounds_ne e, h p hp, if_neg (by omega)]

set_option maxRecDepth 100000 in
set_option maxHeartbeats 16000000 in
theorem linksFollow_walk (a : Option Addr) (b off n cap : Nat) (l : List Jt) (sa : Option Addr) (sb soff sn scap : Nat) (vs : List Int) (w : World) (hM : Js w a n b off l) (hn : n ≤ 9223372036854775807) (hwl : ∀ i, i < n → wfJ (nthJ l i)) (hS : Row w sa sb soff sn vs) (hsn : sn ≤ 9223372036854775807) :
    Calls Try.prog 7 #[.slice a n cap, .slice sa sn scap] w fun e w' => e = .returned (.bool true) ∧ Below w.heap.size w w' := by
  have hl := hM.1
  have hvl := hS.len
  have HM := Lib.hid (show _ ∧ _ ∧ _ from ⟨hM, hwl, hS⟩)
  clear hM hwl hS
  go_enter Try.func7, Try.ntmps7
  go_wp2_with fail
  refine (sane_any w).mono ?_; rintro e w1 ⟨rfl, hB⟩
  go_wp2_with fail
  refine (lkValues a sa b off n cap sb soff sn scap l vs _ (HM.out.1.grown hB) hn HM.out.2.1 (HM.out.2.2.below hB (Nat.le_refl _)) hsn).mono ?_; rintro e w2 ⟨v2, rfl, hO2, hb⟩
  replace hB := below_after hB hb hB.size
  clear hb
  by_cases hc : chkL (sn : Int) l = 0
  case neg =>
    have eo : valL l vs = [] := by unfold valL; rw [hvl]; exact if_neg hc
    rw [eo] at hO2
    obtain ⟨a2, b2, c2, rfl, R2, -, -⟩ := hO2.row
    clear hO2 R2 eo
    generalize chkL (sn : Int) l = x at *
    have hx : (x == 0) = false := by simpa using hc
    clear hc
    go_wp2
    go_ret
    exact ⟨rfl, hB⟩
  have hG := good_of hc
  have eo : valL l vs = valK l vs sn := by unfold valL; rw [hvl, if_pos hc]
  rw [eo] at hO2
  obtain ⟨a2, b2, c2, ev, R2, -, -⟩ := hO2.row
  rw [valK_len, hvl] at ev R2
  subst ev
  rw [hc]
  have HC := Lib.hid hc
  have hM256 := hG.le
  obtain ⟨F, hF, hmk⟩ := mk_bools sn hM256
  have HG := Lib.hid (show _ ∧ _ from ⟨hG, hF⟩)
  have HR := Lib.hid (show _ ∧ _ from ⟨R2, hB⟩)
  clear hO2 eo hG hF hc hB R2
  go_wp2_with fail
  refine (lkCheck (sn : Int) a b off n cap l _ (HM.out.1.grown HR.out.2) hn HM.out.2.1).mono ?_; rintro e w3 ⟨rfl, hb⟩
  rw [HC.out]
  have hg := blk_new w3 (.cells F 4)
  obtain ⟨g, hgd⟩ : ∃ g, g = w3.heap.size := ⟨_, rfl⟩
  have bg : Below w3.heap.size w3 (w3.alloc (.cells F 4)) := (Below.refl _ _).alloc (Nat.le_refl _) _
  have hR3 := HR.out.1.below hb (Nat.le_refl _)
  have hB3 := below_after HR.out.2 hb HR.out.2.size
  have HS := Lib.hid (show _ ∧ _ ∧ _ ∧ _ from ⟨hR3.below bg (Nat.le_refl _), below_after hB3 bg hB3.size, hg, hR3.old⟩)
  have hgs := hB3.size
  clear hg bg hR3 hB3 hb HR
  go_wp2
  rw [← hgd] at HS hgs ⊢
  have HGD := Lib.hid hgd
  clear hgd hmk
  go_loopw [8] (fun i wr => ∃ (q : Nat) (Y : Array Value), q ≤ n ∧ i = .int .i64 q ∧ wr.heap[g]? = some (.cells Y 4 (0, 0)) ∧ (∀ p : Nat, p < sn → Y[p]? = some (.bool (decide (srcN l (p : Int) q ≠ 0)))) ∧ Below g (w3.alloc (.cells F 4)) wr) (fun i _ => n - (intOf i).toNat)
  case atStart => exact ⟨0, F, Nat.zero_le _, rfl, HS.out.2.2.1, fun p hp => (HG.out.2 p hp).trans (by simp [srcN]), Below.refl _ _⟩
  case round =>
    obtain ⟨q, Y, hq, rfl, hY, hYp, hBg⟩ := hrel
    have hBr : Below w.heap.size w wr := HS.out.2.1.trans (hBg.mono hgs)
    by_cases hlt : q < n
    case neg =>
      obtain rfl : q = n := by omega
      have HY := Lib.hid (show _ ∧ _ ∧ _ ∧ _ from ⟨hY, hYp, hBr, hBg⟩)
      have hgr := (Array.getElem?_eq_some_iff.1 hY).1
      clear hY hYp hBr hBg
      generalize wr = W0 at *
      go_wp2
      go_loopw [9] (fun i wr => ∃ (p : Nat), p ≤ sn ∧ i = .int .i64 p ∧ Below W0.heap.size W0 wr) (fun i _ => sn - (intOf i).toNat)
      case atStart => exact ⟨0, Nat.zero_le _, rfl, Below.refl _ _⟩
      case round =>
        obtain ⟨p, hp, rfl, hb⟩ := hrel
        have hB := below_after HY.out.2.2.1 hb HY.out.2.2.1.size
        by_cases hlt : p < sn
        case neg =>
          obtain rfl : p = sn := by omega
          clear hb
          have HB := Lib.hid hB; clear hB
          go_wp2
          go_ret
          exact ⟨rfl, HB.out⟩
        have i1 : (p : Int) < (sn : Int) := by omega
        have up : IntKind.i64.wrap ((p : Int) + 1) = (p : Int) + 1 := wrap_id (by omega)
        have hYb := blk_below HY.out.1 hb (Array.getElem?_eq_some_iff.1 HY.out.1).1
        have cy := (blk_cell hYb p).trans (HY.out.2.1 p hlt)
        have hgr2 := (Array.getElem?_eq_some_iff.1 hYb).1
        by_cases hs : srcN l (p : Int) q = 0
        · have hR := (HS.out.1.low HY.out.2.2.2 (fun h => by have := HS.out.2.2.2 h; exact this)).below hb (Nat.le_refl _)
          have cx := hR.cel p hlt
          obtain rfl := hR.adr (by omega)
          have cv := (HM.out.2.2.below hB (Nat.le_refl _)).cel p hlt
          obtain rfl := HM.out.2.2.adr (by omega)
          have ho1 := hR.old (by omega)
          have ho2 := Nat.lt_of_lt_of_le (HM.out.2.2.old (by omega)) hB.size
          have hv := val_own (l := l) (vs := vs) (by rw [hvl]; exact HG.out.1) (p := p) (by omega) (by rw [hl]; exact hs)
          rw [hvl] at hv
          rw [hv, Nat.zero_add] at cx
          rw [hs] at cy
          simp at cy
          generalize vs.getD p 0 = y at *
          have HB := Lib.hid hb; clear hb hB hv hYb hR
          go_wp2
          go_quiet ((go_at_call 18; first | exact Calls.quiet_of_same (clip_same _ _) | exact quiet_add_same (clip_same _ _)))
          go_wp2
          go_roundw
          case rel => exact ⟨p + 1, by omega, by go_num, below_drewN HB.out _⟩
          case measure => simp [intOf]; omega
        · have dy : decide (srcN l (p : Int) q ≠ 0) = true := decide_eq_true hs
          rw [dy] at cy
          have HB := Lib.hid hb; clear hb hB hYb dy
          have HH := Lib.hid hs; clear hs
          go_wp2
          go_quiet (fail)
          go_wp2
          go_roundw
          case rel => exact ⟨p + 1, by omega, by go_num, below_drewN HB.out _⟩
          case measure => simp [intOf]; omega
    have i1 : (q : Int) < (n : Int) := by omega
    have uq : IntKind.i64.wrap ((q : Int) + 1) = (q : Int) + 1 := wrap_id (by omega)
    obtain ⟨rfl, hbw⟩ := HM.out.1.2.1 (by omega)
    have ok := HG.out.1.ok q (by omega)
    have hv := val_link (l := l) (vs := vs) (by rw [hvl]; exact HG.out.1) (i := q) (by omega)
    have hin := valK_in l vs sn (nthJ l q).1.toNat
    rw [hvl] at hv
    obtain ⟨c0, c1, c2', c3, c4⟩ := (HM.out.1.grown hBr).2.2 q hlt
    obtain ⟨t, ht0⟩ : ∃ t : Nat, (nthJ l q).2.1 = t := ⟨(nthJ l q).2.1.toNat, by have := ok.2.2.1; omega⟩
    have hBr1 : Below w.heap.size w (wr.setCell ⟨g, t, none⟩ (.bool true)) := hBr.setCell (p := ⟨g, t, none⟩) hgs _
    have hBg1 : Below g (w3.alloc (.cells F 4)) (wr.setCell ⟨g, t, none⟩ (.bool true)) := hBg.setCell (p := ⟨g, t, none⟩) (Nat.le_refl _) _
    obtain ⟨e0, e1, e2, e3, e4⟩ := (HM.out.1.grown hBr1).2.2 q hlt
    have hex := (HS.out.1.low hBg1 (fun h => by have := HS.out.2.2.2 h; exact this)).cel
    have hmk := fun t (ht : (nthJ l q).2.1 = (t : Nat)) => tgt_mark hYp ht
    have hR := HS.out.1.low hBg (fun h => by have := HS.out.2.2.2 h; exact this)
    have hsn0 : 0 < sn := by have := ok.2.1; omega
    obtain rfl := hR.adr hsn0
    have hcx := hR.cel
    have hbo := HS.out.2.2.2 hsn0
    generalize nthJ l q = z at *
    obtain ⟨z0, z1', z2', z3', z4'⟩ := z
    obtain ⟨_, hf, ht, hn1, hd1, ha1⟩ := ok
    dsimp only at hf ht hn1 hd1 ha1 hv hin c0 c1 c2' c3 c4 hmk ht0 e0 e1 e2 e3 e4
    obtain ⟨f, rfl⟩ : ∃ f : Nat, z0 = f := ⟨z0.toNat, by omega⟩
    subst ht0
    rw [Int.toNat_natCast] at hv hin
    rw [Int.toNat_natCast] at hv
    have f2 : (f : Int) < (sn : Int) := hf.2
    have t2 : (t : Int) < (sn : Int) := ht.2
    have hmk' := hmk t rfl
    have cxf := hcx f (by omega)
    have cxt := hcx t (by omega)
    rw [hv] at cxt
    rw [Nat.zero_add] at cxf cxt
    have exf := hex f (by omega)
    have ext := hex t (by omega)
    rw [hv] at ext
    rw [Nat.zero_add] at exf ext
    generalize (valK l vs sn).getD f 0 = x at *
    have hmu := mul_in hin hn1
    have hdi := ediv_in (b := z3') (by omega) hmu.1 hmu.2 (by omega) (by omega)
    have w1' : IntKind.i64.wrap (x * z2') = x * z2' := wrap_id (by omega)
    have w2' : IntKind.i64.wrap (x * z2' / z3' + z4') = x * z2' / z3' + z4' := wrap_id (by omega)
    have hgr := (Array.getElem?_eq_some_iff.1 hY).1
    have cY := (blk_cell hY t).trans (hYp t (by omega))
    generalize decide (srcN l (t : Int) q ≠ 0) = dd at *
    have fY := blk_free hY t
    have hY1 := cells_setJ (i := t) (v := .bool true) hY
    have hbr : b < wr.heap.size := Nat.lt_of_lt_of_le hbw hBr.size
    have bne : b ≠ g := by omega
    have bne2 : b2 ≠ g := by omega
    have HB := Lib.hid (show _ ∧ _ ∧ _ from ⟨hBg1, hmk', hY1⟩)
    have HF := Lib.hid (show _ ∧ _ ∧ _ ∧ _ ∧ _ ∧ _ ∧ _ ∧ _ from ⟨e0, e1, e2, e3, e4, exf, ext, hBr1.size⟩)
    clear hBr1 hBg1 e0 e1 e2 e3 e4 hex exf ext
    have HD := Lib.hid (show _ ∧ _ from ⟨hd1, hmu⟩)
    have d0 : decide ((f : Int) < 0) = false := decide_eq_false (by omega)
    have d0' : decide ((t : Int) < 0) = false := decide_eq_false (by omega)
    have d1 : decide ((sn : Int) ≤ (f : Int)) = false := decide_eq_false (by omega)
    have d2 : decide ((sn : Int) ≤ (t : Int)) = false := decide_eq_false (by omega)
    have d3 : decide (z3' < 1) = false := decide_eq_false (by omega)
    clear hBg hBr hmk hmk' hv hin hf ht hn1 hd1 ha1 hmu hdi hY hYp hR hcx hY1
    go_wp2
    clear c0 c1 c2' c3 c4 cxf cxt cY fY hbr hgr
    obtain ⟨c0, c1, c2', c3, c4, cxf, cxt, hsz⟩ := HF.out
    clear HF
    generalize wr.setCell ⟨g, t, none⟩ (.bool true) = W1 at *
    have hbr : b < W1.heap.size := Nat.lt_of_lt_of_le hbw hsz
    have hgr : g < W1.heap.size := (Array.getElem?_eq_some_iff.1 HB.out.2.2).1
    go_quiet (first | (go_at_call 19; first | exact Calls.quiet_of_same (down_same (x * z2') z3' _ (by have := HD.out; omega) (by have := HD.out; omega) (by have := HD.out; omega) (by have := HD.out; omega)) | exact quiet_add_same (down_same (x * z2') z3' _ (by have := HD.out; omega) (by have := HD.out; omega) (by have := HD.out; omega) (by have := HD.out; omega))) | (go_at_call 18; first | exact Calls.quiet_of_same (clip_same _ _) | exact quiet_add_same (clip_same _ _)))
    go_wp2
    go_roundw
    case rel => exact ⟨q + 1, _, by omega, by go_num, HB.out.2.2, HB.out.2.1, below_drewN HB.out.1 _⟩
    case measure => simp [intOf]; omega
end Go.Proofs.Ythncfhfnboocmaa
