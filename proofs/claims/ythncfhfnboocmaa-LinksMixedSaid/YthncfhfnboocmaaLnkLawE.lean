/- The walk of LinksMixed (layer 13). -/
import Derived.Test.YthncfhfnboocmaaLnkLawC
import Derived.Test.YthncfhfnboocmaaLnkMixM
import Derived.Test.YthncfhfnboocmaaOwnRow
import Derived.Test.YthncfhfnboocmaaOwnSt
import Derived.Test.YthncfhfnboocmaaHeld
import Derived.OpenShut
import Derived.WalkKit
import Derived.ProofKit
namespace Go.Proofs.Ythncfhfnboocmaa
open Go.ChangeShapes Go.WideShapes Go.ChangeAt Go.RowKit

/-- A slice of bytes: what lies in it. -/
structure RowU (w : World) (a : Option Addr) (b off n : Nat) (l : List Int) : Prop where
  adr : 0 < n → a = some ⟨b, off, none⟩
  old : 0 < n → b < w.heap.size
  cel : ∀ i, i < n → w.cell? ⟨b, off + i, none⟩ = some (.int .u8 (l.getD i 0)) ∧ 0 ≤ l.getD i 0 ∧ l.getD i 0 ≤ 255
theorem RowU.below {w w' : World} {a : Option Addr} {b off n : Nat} {l : List Int} (h : RowU w a b off n l) (hb : Below w.heap.size w w') : RowU w' a b off n l :=
  ⟨h.adr, fun hn => Nat.lt_of_lt_of_le (h.old hn) hb.size, fun i hi => ⟨(hb.cell (p := ⟨b, off + i, none⟩) (h.old (by omega))).trans (h.cel i hi).1, (h.cel i hi).2⟩⟩

theorem rowU_of {w : World} {a : Option Addr} {len cap : Nat} {zs : List Int} (h : (a = none ∧ len = 0 ∧ cap = 0 ∧ zs = []) ∨
    ∃ x, a = some x ∧ len ≤ cap ∧ cap ≤ maxLen ∧ zs.length = cap ∧ (∀ i, i < zs.length → w.cell? (x.add i) = some (.int .u8 (zs.getD i 0))) ∧ ∀ n ∈ zs, (Lit.int .u8 n).wf = true) :
    ∃ b off, RowU w a b off len zs ∧ len ≤ 9223372036854775807 := by
  rcases h with ⟨rfl, rfl, rfl, rfl⟩ | ⟨x, rfl, hl, hm, hz, hc, hw⟩
  · exact ⟨0, 0, ⟨fun h => by omega, fun h => by omega, fun i hi => by omega⟩, by omega⟩
  · unfold maxLen at hm
    by_cases h0 : 0 < zs.length
    · obtain ⟨b, off, rfl, hcc⟩ := ints_at hc h0
      refine ⟨b, off, ⟨fun _ => rfl, fun _ => by have := World.block_lt_of_cell? w _ (hcc 0 h0); simpa using this, fun i hi => ?_⟩, by omega⟩
      have hi2 : i < zs.length := by omega
      have hb := bounds_u8 (hw (zs.getD i 0) (by
        rw [List.getD_eq_getElem?_getD, List.getElem?_eq_getElem hi2]
        exact List.getElem_mem hi2))
      exact ⟨hcc i hi2, hb.1, hb.2⟩
    · obtain rfl : len = 0 := by omega
      exact ⟨0, 0, ⟨fun h => by omega, fun h => by omega, fun i hi => by omega⟩, by omega⟩

set_option maxRecDepth 100000 in
set_option maxHeartbeats 16000000 in
theorem linksMixed_walk (a : Option Addr) (b off n cap : Nat) (l : List Jt) (sa : Option Addr) (sb soff sn scap : Nat) (vs : List Int) (ta : Option Addr) (tb toff tn tcap : Nat) (ts : List Int) (o : Int) (w : World) (hM : Js w a n b off l) (hn : n ≤ 9223372036854775807) (hwl : ∀ i, i < n → wfJ (nthJ l i)) (hnc : a = none → cap = 0) (hS : Row w sa sb soff sn vs) (hsn : sn ≤ 9223372036854775807) (hsc : sa = none → scap = 0) (hT : RowU w ta tb toff tn ts) (htn : tn ≤ 9223372036854775807) :
    Calls Try.prog 8 #[.slice a n cap, .slice sa sn scap, .slice ta tn tcap, .int .i64 o] w fun e w' => e = .returned (.bool true) ∧ Below w.heap.size w w' := by
  have hl := hM.1
  have hvl := hS.len
  have HM := Lib.hid (show _ ∧ _ ∧ _ ∧ _ from ⟨hM, hwl, hS, hT⟩)
  clear hM hwl hS hT
  go_enter Try.func8, Try.ntmps8
  go_wp2_with fail
  refine (sane_any w).mono ?_; rintro e w1 ⟨rfl, hB⟩
  by_cases q1 : 40 < (n : Int)
  · go_wp2
    go_ret
    exact ⟨rfl, hB⟩
  by_cases q2 : 300 < (sn : Int)
  · go_wp2
    go_ret
    exact ⟨rfl, hB⟩
  by_cases q3 : 40 < (tn : Int)
  · go_wp2
    go_ret
    exact ⟨rfl, hB⟩
  have HB := Lib.hid hB; clear hB
  have hz1 := HB.out.size
  go_wp2_with (at_builtin; refine wpList_append_Js rfl _ _ rfl w1.heap.size _ [] rfl (JsO.empty w1) _ b off _ _ l rfl ((HM.out.1.grown HB.out).grown (by go_grown)) hnc (by simp; omega) (by simp) ?_; intro v1 w2 hO hB1 hG; clear hG; rw [List.nil_append] at hO; have hO' := hO; obtain ⟨am, bm, cm, rfl, hMm, hkm, hnm, hlm, hcm⟩ := hO'.s; rw [hl] at hMm hkm hlm hO ⊢; have HO := Lib.hid (show _ ∧ _ from ⟨hO, ((Below.refl w1.heap.size w1).alloc (Nat.le_refl _) _).trans hB1⟩); clear hO hO' hB1)
  clear hMm hkm
  go_loopw [10] (fun i wr => ∃ (k : Nat) (lm : List Jt), k ≤ tn ∧ i = .int .i64 k ∧ JsO wr w1.heap.size (.slice am n cm) lm ∧ l.Perm lm ∧ Below w1.heap.size w1 wr) (fun i _ => tn - (intOf i).toNat)
  case atStart => exact ⟨0, l, Nat.zero_le _, rfl, HO.out.1, List.Perm.refl _, HO.out.2⟩
  case round =>
    obtain ⟨k, lm, hk, rfl, hJ, hp, hBm⟩ := hrel
    have hlm : lm.length = n := by rw [← hp.length_eq, hl]
    by_cases hlt : k < tn ∧ 0 < n
    case neg =>
      have HL := Lib.hid (show _ ∧ _ ∧ _ from ⟨hJ, hp, hBm⟩)
      have hBw : Below w.heap.size w wr := HB.out.trans (hBm.mono hz1)
      have HW := Lib.hid hBw
      have hWs := hBm.size
      clear hJ hp hBm HO hBw
      generalize wr = W0 at *
      have hor : ¬ ((k : Int) < (tn : Int)) ∨ ((k : Int) < (tn : Int) ∧ ¬ (0 : Int) < (n : Int)) := by omega
      have hJm : ∃ bm', Js W0 am n bm' 0 lm := by
        obtain ⟨a', b', c', ev, hJm, -⟩ := HL.out.1.s
        rw [hlm] at ev hJm
        injection ev with e1 e2 e3
        subst e1
        exact ⟨b', hJm⟩
      obtain ⟨bm', hJm⟩ := hJm
      have hwm : ∀ i, i < n → wfJ (nthJ lm i) := fun i hi => by
        obtain ⟨j, hj, e⟩ := mem_nthJ (HL.out.2.1.symm.subset (nthJ_mem (l := lm) (i := i) (by omega)))
        rw [← e]; exact HM.out.2.1 j (by omega)
      have HJ := Lib.hid (show _ ∧ _ from ⟨hJm, hwm⟩)
      clear hJm hwm
      clear hlt
      rcases hor with h1 | ⟨h1, h2⟩
      · go_wp2_with (at_builtin; refine wpList_append_row rfl _ _ rfl W0.heap.size _ [] rfl (Ints.empty W0) _ sb soff _ _ vs rfl ((HM.out.2.2.1.below HW.out (Nat.le_refl _)).below ((Below.refl _ _).alloc (Nat.le_refl _) _) (Nat.le_refl _)) hsc (by simp; omega) (by simp) ?_; intro v3 w3 hO hB1 hG; clear hG; rw [List.nil_append] at hO; have hO' := hO; obtain ⟨ac, bc, cc, rfl, hRc, hlc, hcc⟩ := hO'.row; rw [hvl] at hlc hO ⊢; have HO := Lib.hid (show _ ∧ _ from ⟨hO, ((Below.refl W0.heap.size W0).alloc (Nat.le_refl _) _).trans hB1⟩); clear hO hO' hB1 hRc)
        have hc0 : vs.length = sn := hvl
        go_loopw [15] (fun i wr => ∃ (q : Nat) (cs : List Int), q ≤ n ∧ i = .int .i64 q ∧ Ints wr W0.heap.size (.slice ac sn cc) cs ∧ cs.length = sn ∧ (∀ p : Nat, p < sn → (∀ i, i < q → (nthJ l i).2.1 ≠ (p : Int)) → cs.getD p 0 = vs.getD p 0) ∧ Below W0.heap.size W0 wr) (fun i _ => n - (intOf i).toNat)
        case atStart => exact ⟨0, vs, Nat.zero_le _, rfl, HO.out.1, hvl, fun _ _ _ => rfl, HO.out.2⟩
        case round =>
          obtain ⟨q, cs, hq, rfl, hI, hcl, hnear, hBq⟩ := hrel
          have hBw : Below w.heap.size w wr := HW.out.trans (hBq.mono (by omega))
          by_cases hlt : q < n
          case neg =>
            obtain rfl : q = n := by omega
            have hval := val_perm HL.out.2.1 (vs := vs) (vs' := cs) ⟨by rw [hcl, hvl], fun p hp h => hnear p (by omega) (fun i hi => h i (by omega))⟩
            have hck := chk_perm (m := (sn : Int)) HL.out.2.1
            have hor' := order_perm (m := (sn : Int)) HL.out.2.1
            obtain ⟨av, bv, cv, ev, hRc, -, -⟩ := hI.row
            rw [hcl] at ev hRc
            injection ev with ev1 ev2 ev3
            subst ev1
            subst ev3
            have HV := Lib.hid (show _ ∧ _ ∧ _ ∧ _ ∧ _ from ⟨hval, hck, hor', hRc, hBq⟩)
            have hB := hBw
            clear hval hck hor' hRc hBq hI hnear hBw
            go_wp2_with fail
            refine (lkValues a sa b off q cap sb soff sn scap l vs _ (HM.out.1.grown hB) hn HM.out.2.1 (HM.out.2.2.1.below hB (Nat.le_refl _)) hsn).mono ?_; rintro e w5 ⟨v5, rfl, hO5, hb⟩
            replace hB := below_after hB hb hB.size
            have hB0 := below_after HV.out.2.2.2.2 hb HV.out.2.2.2.2.size
            obtain ⟨a5, b5, c5, rfl, R5, -, -⟩ := hO5.row
            have RC := HV.out.2.2.2.1.below hb (Nat.le_refl _)
            clear hO5 hb
            go_wp2_with fail
            refine (lkValues am ac bm' 0 q cm bv 0 sn cc lm cs _ (HJ.out.1.grown hB0) hn HJ.out.2 RC hsn).mono ?_; rintro e w6 ⟨v6, rfl, hO6, hb⟩
            replace hB := below_after hB hb hB.size
            replace hB0 := below_after hB0 hb hB0.size
            obtain ⟨a6, b6, c6, rfl, R6, -, -⟩ := hO6.row
            replace R5 := R5.below hb (Nat.le_refl _)
            rw [← HV.out.1] at R6 ⊢
            rw [← HV.out.2.1]
            clear hO6 hb RC
            have HR := Lib.hid (show _ ∧ _ from ⟨R5, R6⟩)
            clear R5 R6
            go_wp2_with fail
            refine (lkOrder (sn : Int) a b off q cap l _ (HM.out.1.grown hB) hn HM.out.2.1).mono ?_; rintro e w7 ⟨v7, rfl, hO7, hb⟩
            replace hB := below_after hB hb hB.size
            replace hB0 := below_after hB0 hb hB0.size
            obtain ⟨a7, b7, c7, rfl, R7, -, -⟩ := hO7.row
            have HR7 := Lib.hid (show _ ∧ _ ∧ _ from ⟨HR.out.1.below hb (Nat.le_refl _), HR.out.2.below hb (Nat.le_refl _), R7⟩)
            clear hO7 hb R7 HR
            go_wp2_with fail
            refine (lkOrder (sn : Int) am bm' 0 q cm lm _ (HJ.out.1.grown hB0) hn HJ.out.2).mono ?_; rintro e w8 ⟨v8, rfl, hO8, hb⟩
            replace hB := below_after hB hb hB.size
            obtain ⟨a8, b8, c8, rfl, R8, -, -⟩ := hO8.row
            rw [← HV.out.2.2.1] at R8
            rw [← HV.out.2.1, ← HV.out.2.2.1]
            have hs1 : (valL l vs).length ≤ 16777216 := by have := valL_small l vs; omega
            have hs2 := orderL_small (sn : Int) l
            have HR8 := Lib.hid (show _ ∧ _ ∧ _ ∧ _ ∧ _ ∧ _ from ⟨HR7.out.1.below hb (Nat.le_refl _), HR7.out.2.1.below hb (Nat.le_refl _), HR7.out.2.2.below hb (Nat.le_refl _), R8, hs1, hs2⟩)
            clear hO8 hb R8 HR7 hs1 hs2 hB0
            generalize chkL (sn : Int) l = x at *
            generalize hg1 : (valL l vs).length = L1 at *
            generalize hg2 : (orderL (sn : Int) l).length = L2 at *
            have HG1 := Lib.hid (show _ ∧ _ from ⟨hg1, hg2⟩)
            clear hg1 hg2
            go_wp2_with fail
            refine (same_any a5 a6 b5 b6 0 0 L1 L1 c5 c6 _ _ _ HR8.out.1 HR8.out.2.1 HR8.out.2.2.2.2.1 rfl).mono ?_; rintro e w9 ⟨rfl, hb⟩
            replace hB := below_after hB hb hB.size
            have HR9 := Lib.hid (show _ ∧ _ ∧ _ from ⟨HR8.out.2.2.1.below hb (Nat.le_refl _), HR8.out.2.2.2.1.below hb (Nat.le_refl _), HR8.out.2.2.2.2.2⟩)
            clear hb HR8
            go_wp2_with fail
            refine (same_any a7 a8 b7 b8 0 0 L2 L2 c7 c8 _ _ _ HR9.out.1 HR9.out.2.1 HR9.out.2.2 rfl).mono ?_; rintro e w10 ⟨rfl, hb⟩
            replace hB := below_after hB hb hB.size
            clear hb HR9
            go_wp2
            go_ret
            exact ⟨by simp, hB⟩
          have i1 : (q : Int) < (n : Int) := by omega
          have uq : IntKind.i64.wrap ((q : Int) + 1) = (q : Int) + 1 := wrap_id (by omega)
          obtain ⟨rfl, hbw⟩ := HM.out.1.2.1 (by omega)
          obtain ⟨c0, c1, -, -, -⟩ := (HM.out.1.grown hBw).2.2 q hlt
          have hbr : b < wr.heap.size := Nat.lt_of_lt_of_le hbw hBw.size
          by_cases hto : 0 ≤ (nthJ l q).2.1 ∧ (nthJ l q).2.1 < (sn : Int)
          · obtain ⟨t, ht⟩ : ∃ t : Nat, (nthJ l q).2.1 = t := ⟨(nthJ l q).2.1.toNat, by omega⟩
            rw [ht] at c1 hto
            have t2 : (t : Int) < (sn : Int) := hto.2
            obtain ⟨g, cg, ev, hgB⟩ := hI.inBlock hcl (by omega)
            injection ev with ev1 ev2 ev3
            subst ev1
            have ct := hI.cellAt hcl t (by omega)
            have ft := hI.freeAt hcl t
            have hgr : g < wr.heap.size := World.block_lt_of_cell? wr _ ct
            have HQ := Lib.hid (show _ ∧ _ ∧ _ ∧ _ from ⟨hI, hnear, hBq, ht⟩)
            clear hI hnear hBq ht hBw hto
            generalize cs.getD t 0 = ov at *
            go_wp2
            go_roundw
            case rel => exact ⟨q + 1, cs.set t o, by omega, by go_num, Ints.stored hcl HQ.out.1 t o, by rw [List.length_set, hcl], fun p hp h => by
              rw [getD_set_ne (fun e => h q (by omega) (by rw [HQ.out.2.2.2, e]))]
              exact HQ.out.2.1 p hp (fun i hi => h i (by omega)), HQ.out.2.2.1.setCell (p := ⟨g, t, none⟩) hgB _⟩
            case measure => simp [intOf]; omega
          · have hno : ¬ 0 ≤ (nthJ l q).2.1 ∨ (0 ≤ (nthJ l q).2.1 ∧ ¬ (nthJ l q).2.1 < (sn : Int)) := by omega
            have HQ := Lib.hid (show _ ∧ _ ∧ _ from ⟨hI, hnear, hBq⟩)
            clear hI hnear hBq hBw hto
            generalize (nthJ l q).2.1 = tv at *
            rcases hno with h7 | ⟨h7, h8⟩
            all_goals
              go_wp2
              go_roundw
              case rel => exact ⟨q + 1, cs, by omega, by go_num, HQ.out.1, hcl, fun p hp h => HQ.out.2.1 p hp (fun i hi => h i (by omega)), HQ.out.2.2⟩
              case measure => simp [intOf]; omega
      · go_wp2_with (at_builtin; refine wpList_append_row rfl _ _ rfl W0.heap.size _ [] rfl (Ints.empty W0) _ sb soff _ _ vs rfl ((HM.out.2.2.1.below HW.out (Nat.le_refl _)).below ((Below.refl _ _).alloc (Nat.le_refl _) _) (Nat.le_refl _)) hsc (by simp; omega) (by simp) ?_; intro v3 w3 hO hB1 hG; clear hG; rw [List.nil_append] at hO; have hO' := hO; obtain ⟨ac, bc, cc, rfl, hRc, hlc, hcc⟩ := hO'.row; rw [hvl] at hlc hO ⊢; have HO := Lib.hid (show _ ∧ _ from ⟨hO, ((Below.refl W0.heap.size W0).alloc (Nat.le_refl _) _).trans hB1⟩); clear hO hO' hB1 hRc)
        have hc0 : vs.length = sn := hvl
        go_loopw [15] (fun i wr => ∃ (q : Nat) (cs : List Int), q ≤ n ∧ i = .int .i64 q ∧ Ints wr W0.heap.size (.slice ac sn cc) cs ∧ cs.length = sn ∧ (∀ p : Nat, p < sn → (∀ i, i < q → (nthJ l i).2.1 ≠ (p : Int)) → cs.getD p 0 = vs.getD p 0) ∧ Below W0.heap.size W0 wr) (fun i _ => n - (intOf i).toNat)
        case atStart => exact ⟨0, vs, Nat.zero_le _, rfl, HO.out.1, hvl, fun _ _ _ => rfl, HO.out.2⟩
        case round =>
          obtain ⟨q, cs, hq, rfl, hI, hcl, hnear, hBq⟩ := hrel
          have hBw : Below w.heap.size w wr := HW.out.trans (hBq.mono (by omega))
          by_cases hlt : q < n
          case neg =>
            obtain rfl : q = n := by omega
            have hval := val_perm HL.out.2.1 (vs := vs) (vs' := cs) ⟨by rw [hcl, hvl], fun p hp h => hnear p (by omega) (fun i hi => h i (by omega))⟩
            have hck := chk_perm (m := (sn : Int)) HL.out.2.1
            have hor' := order_perm (m := (sn : Int)) HL.out.2.1
            obtain ⟨av, bv, cv, ev, hRc, -, -⟩ := hI.row
            rw [hcl] at ev hRc
            injection ev with ev1 ev2 ev3
            subst ev1
            subst ev3
            have HV := Lib.hid (show _ ∧ _ ∧ _ ∧ _ ∧ _ from ⟨hval, hck, hor', hRc, hBq⟩)
            have hB := hBw
            clear hval hck hor' hRc hBq hI hnear hBw
            go_wp2_with fail
            refine (lkValues a sa b off q cap sb soff sn scap l vs _ (HM.out.1.grown hB) hn HM.out.2.1 (HM.out.2.2.1.below hB (Nat.le_refl _)) hsn).mono ?_; rintro e w5 ⟨v5, rfl, hO5, hb⟩
            replace hB := below_after hB hb hB.size
            have hB0 := below_after HV.out.2.2.2.2 hb HV.out.2.2.2.2.size
            obtain ⟨a5, b5, c5, rfl, R5, -, -⟩ := hO5.row
            have RC := HV.out.2.2.2.1.below hb (Nat.le_refl _)
            clear hO5 hb
            go_wp2_with fail
            refine (lkValues am ac bm' 0 q cm bv 0 sn cc lm cs _ (HJ.out.1.grown hB0) hn HJ.out.2 RC hsn).mono ?_; rintro e w6 ⟨v6, rfl, hO6, hb⟩
            replace hB := below_after hB hb hB.size
            replace hB0 := below_after hB0 hb hB0.size
            obtain ⟨a6, b6, c6, rfl, R6, -, -⟩ := hO6.row
            replace R5 := R5.below hb (Nat.le_refl _)
            rw [← HV.out.1] at R6 ⊢
            rw [← HV.out.2.1]
            clear hO6 hb RC
            have HR := Lib.hid (show _ ∧ _ from ⟨R5, R6⟩)
            clear R5 R6
            go_wp2_with fail
            refine (lkOrder (sn : Int) a b off q cap l _ (HM.out.1.grown hB) hn HM.out.2.1).mono ?_; rintro e w7 ⟨v7, rfl, hO7, hb⟩
            replace hB := below_after hB hb hB.size
            replace hB0 := below_after hB0 hb hB0.size
            obtain ⟨a7, b7, c7, rfl, R7, -, -⟩ := hO7.row
            have HR7 := Lib.hid (show _ ∧ _ ∧ _ from ⟨HR.out.1.below hb (Nat.le_refl _), HR.out.2.below hb (Nat.le_refl _), R7⟩)
            clear hO7 hb R7 HR
            go_wp2_with fail
            refine (lkOrder (sn : Int) am bm' 0 q cm lm _ (HJ.out.1.grown hB0) hn HJ.out.2).mono ?_; rintro e w8 ⟨v8, rfl, hO8, hb⟩
            replace hB := below_after hB hb hB.size
            obtain ⟨a8, b8, c8, rfl, R8, -, -⟩ := hO8.row
            rw [← HV.out.2.2.1] at R8
            rw [← HV.out.2.1, ← HV.out.2.2.1]
            have hs1 : (valL l vs).length ≤ 16777216 := by have := valL_small l vs; omega
            have hs2 := orderL_small (sn : Int) l
            have HR8 := Lib.hid (show _ ∧ _ ∧ _ ∧ _ ∧ _ ∧ _ from ⟨HR7.out.1.below hb (Nat.le_refl _), HR7.out.2.1.below hb (Nat.le_refl _), HR7.out.2.2.below hb (Nat.le_refl _), R8, hs1, hs2⟩)
            clear hO8 hb R8 HR7 hs1 hs2 hB0
            generalize chkL (sn : Int) l = x at *
            generalize hg1 : (valL l vs).length = L1 at *
            generalize hg2 : (orderL (sn : Int) l).length = L2 at *
            have HG1 := Lib.hid (show _ ∧ _ from ⟨hg1, hg2⟩)
            clear hg1 hg2
            go_wp2_with fail
            refine (same_any a5 a6 b5 b6 0 0 L1 L1 c5 c6 _ _ _ HR8.out.1 HR8.out.2.1 HR8.out.2.2.2.2.1 rfl).mono ?_; rintro e w9 ⟨rfl, hb⟩
            replace hB := below_after hB hb hB.size
            have HR9 := Lib.hid (show _ ∧ _ ∧ _ from ⟨HR8.out.2.2.1.below hb (Nat.le_refl _), HR8.out.2.2.2.1.below hb (Nat.le_refl _), HR8.out.2.2.2.2.2⟩)
            clear hb HR8
            go_wp2_with fail
            refine (same_any a7 a8 b7 b8 0 0 L2 L2 c7 c8 _ _ _ HR9.out.1 HR9.out.2.1 HR9.out.2.2 rfl).mono ?_; rintro e w10 ⟨rfl, hb⟩
            replace hB := below_after hB hb hB.size
            clear hb HR9
            go_wp2
            go_ret
            exact ⟨by simp, hB⟩
          exfalso
          omega
    obtain ⟨hlt, hn0⟩ := hlt
    have i1 : (k : Int) < (tn : Int) := by omega
    have i2 : (0 : Int) < (n : Int) := by omega
    have uk : IntKind.i64.wrap ((k : Int) + 1) = (k : Int) + 1 := wrap_id (by omega)
    obtain ⟨g, cg, ev, hgB⟩ := hJ.inBlock hlm hn0
    injection ev with ev1 ev2 ev3
    subst ev1
    have hBw : Below w.heap.size w wr := HB.out.trans (hBm.mono hz1)
    obtain ⟨ct, ct0, ct1⟩ := (HM.out.2.2.2.below hBw).cel k hlt
    obtain rfl := HM.out.2.2.2.adr (by omega)
    have hto := Nat.lt_of_lt_of_le (HM.out.2.2.2.old (by omega)) hBw.size
    obtain ⟨A, hA⟩ : ∃ A : Nat, A = k % n := ⟨_, rfl⟩
    obtain ⟨u, hu⟩ : ∃ u : Nat, ts.getD k 0 = u := ⟨(ts.getD k 0).toNat, by omega⟩
    rw [hu] at ct ct1
    obtain ⟨C, hC⟩ : ∃ C : Nat, C = u % n := ⟨_, rfl⟩
    have hAn : A < n := by rw [hA]; exact Nat.mod_lt _ hn0
    have hCn : C < n := by rw [hC]; exact Nat.mod_lt _ hn0
    have ea1 : Int.tmod (k : Int) (n : Int) = (A : Int) := by rw [hA]; rfl
    have ea2 : (k : Int) % (n : Int) = (A : Int) := by rw [hA]; rfl
    have ec1 : Int.tmod (u : Int) (n : Int) = (C : Int) := by rw [hC]; rfl
    have ec2 : (u : Int) % (n : Int) = (C : Int) := by rw [hC]; rfl
    have wu : IntKind.i64.wrap (u : Int) = (u : Int) := wrap_id (by omega)
    have wA : IntKind.i64.wrap (A : Int) = (A : Int) := wrap_id (by omega)
    have wC : IntKind.i64.wrap (C : Int) = (C : Int) := wrap_id (by omega)
    have n0 : ((n : Int) == 0) = false := by simp; omega
    have iA : (A : Int) < (n : Int) := by omega
    have iC : (C : Int) < (n : Int) := by omega
    obtain ⟨e0, e1, e2, e3, e4⟩ := encLJ_get lm A (by omega)
    obtain ⟨f0, f1, f2, f3, f4⟩ := encLJ_get lm C (by omega)
    have a0 := (hJ.cellAt hlm (A * 5) (by omega)).trans e0
    have a1 := (hJ.cellAt hlm (A * 5 + 1) (by omega)).trans e1
    have a2 := (hJ.cellAt hlm (A * 5 + 2) (by omega)).trans e2
    have a3 := (hJ.cellAt hlm (A * 5 + 3) (by omega)).trans e3
    have a4 := (hJ.cellAt hlm (A * 5 + 4) (by omega)).trans e4
    have b0 := (hJ.cellAt hlm (C * 5) (by omega)).trans f0
    have b1 := (hJ.cellAt hlm (C * 5 + 1) (by omega)).trans f1
    have b2 := (hJ.cellAt hlm (C * 5 + 2) (by omega)).trans f2
    have b3 := (hJ.cellAt hlm (C * 5 + 3) (by omega)).trans f3
    have b4 := (hJ.cellAt hlm (C * 5 + 4) (by omega)).trans f4
    have fg := fun j => hJ.freeAt hlm j
    have hgr : g < wr.heap.size := World.block_lt_of_cell? wr _ a0
    have HL := Lib.hid (show _ ∧ _ ∧ _ from ⟨hJ, hp, hBm⟩)
    clear hJ hp hBm HO hBw hA hC hu
    obtain ⟨x, hx⟩ : ∃ x, x = nthJ lm A := ⟨_, rfl⟩
    obtain ⟨y, hy⟩ : ∃ y, y = nthJ lm C := ⟨_, rfl⟩
    rw [← hx] at a0 a1 a2 a3 a4 e0 e1 e2 e3 e4
    rw [← hy] at f0 f1 f2 f3 f4
    obtain ⟨x0, x1, x2, x3, x4⟩ := x
    obtain ⟨y0, y1, y2, y3, y4⟩ := y
    dsimp only at a0 a1 a2 a3 a4 e0 e1 e2 e3 e4 f0 f1 f2 f3 f4
    have HX := Lib.hid (show _ ∧ _ from ⟨hx, hy⟩)
    have HF := Lib.hid (show _ ∧ _ ∧ _ ∧ _ ∧ _ from ⟨f0, f1, f2, f3, f4⟩)
    have HE := Lib.hid (show _ ∧ _ ∧ _ ∧ _ ∧ _ from ⟨e0, e1, e2, e3, e4⟩)
    clear hx hy e0 e1 e2 e3 e4 f0 f1 f2 f3 f4 b0 b1 b2 b3 b4 fg
    go_upto_region 12 with fail
    clear a0 a1 a2 a3 a4
    have hX1 := blk_new wr (.cells #[.int .i64 x0, .int .i64 x1, .int .i64 x2, .int .i64 x3, .int .i64 x4] 34)
    have HJ1 := HL.out.1.alloc (.cells #[.int .i64 x0, .int .i64 x1, .int .i64 x2, .int .i64 x3, .int .i64 x4] 34)
    have hB1 := HL.out.2.2.alloc (HL.out.2.2.size) (.cells #[.int .i64 x0, .int .i64 x1, .int .i64 x2, .int .i64 x3, .int .i64 x4] 34)
    generalize wr.alloc (.cells #[.int .i64 x0, .int .i64 x1, .int .i64 x2, .int .i64 x3, .int .i64 x4] 34) = W1 at *
    obtain ⟨bx, hbx⟩ : ∃ bx, bx = wr.heap.size := ⟨_, rfl⟩
    rw [← hbx] at hX1 hgr ⊢
    have gne : g ≠ bx := by omega
    clear hbx
    have b0 := (HJ1.cellAt hlm (C * 5) (by omega)).trans HF.out.1
    have b1 := (HJ1.cellAt hlm (C * 5 + 1) (by omega)).trans HF.out.2.1
    have b2 := (HJ1.cellAt hlm (C * 5 + 2) (by omega)).trans HF.out.2.2.1
    have b3 := (HJ1.cellAt hlm (C * 5 + 3) (by omega)).trans HF.out.2.2.2.1
    have b4 := (HJ1.cellAt hlm (C * 5 + 4) (by omega)).trans HF.out.2.2.2.2
    have fg := fun j => HJ1.freeAt hlm j
    have hg1 : g < W1.heap.size := World.block_lt_of_cell? W1 _ b0
    have a0 := (HJ1.cellAt hlm (A * 5) (by omega)).trans HE.out.1
    have a1 := (HJ1.cellAt hlm (A * 5 + 1) (by omega)).trans HE.out.2.1
    have a2 := (HJ1.cellAt hlm (A * 5 + 2) (by omega)).trans HE.out.2.2.1
    have a3 := (HJ1.cellAt hlm (A * 5 + 3) (by omega)).trans HE.out.2.2.2.1
    have a4 := (HJ1.cellAt hlm (A * 5 + 4) (by omega)).trans HE.out.2.2.2.2
    have HW1 := Lib.hid (show _ ∧ _ ∧ _ from ⟨hX1, HJ1, hB1⟩)
    clear hX1 HJ1 hB1
    go_upto_region 13 with fail
    clear a0 a1 a2 a3 a4 b0 b1 b2 b3 b4 fg hg1
    have HJ2 := HW1.out.2.1.stored hlm A hAn (y0, y1, y2, y3, y4)
    dsimp only at HJ2
    have hX2 : (((((W1.setCell ⟨g, A * 5, none⟩ (.int .i64 y0)).setCell ⟨g, A * 5 + 1, none⟩ (.int .i64 y1)).setCell ⟨g, A * 5 + 2, none⟩ (.int .i64 y2)).setCell ⟨g, A * 5 + 3, none⟩ (.int .i64 y3)).setCell ⟨g, A * 5 + 4, none⟩ (.int .i64 y4)).heap[bx]? = some (.cells #[.int .i64 x0, .int .i64 x1, .int .i64 x2, .int .i64 x3, .int .i64 x4] 34 (0, 0)) :=
      ((Below.heap_setCell _ _ _ _ gne.symm).trans ((Below.heap_setCell _ _ _ _ gne.symm).trans ((Below.heap_setCell _ _ _ _ gne.symm).trans ((Below.heap_setCell _ _ _ _ gne.symm).trans ((Below.heap_setCell _ _ _ _ gne.symm).trans HW1.out.1)))))
    have hB2 := (((((HW1.out.2.2.setCell (p := ⟨g, A * 5, none⟩) hgB (.int .i64 y0)).setCell (p := ⟨g, A * 5 + 1, none⟩) hgB (.int .i64 y1)).setCell (p := ⟨g, A * 5 + 2, none⟩) hgB (.int .i64 y2)).setCell (p := ⟨g, A * 5 + 3, none⟩) hgB (.int .i64 y3)).setCell (p := ⟨g, A * 5 + 4, none⟩) hgB (.int .i64 y4))
    generalize ((((W1.setCell ⟨g, A * 5, none⟩ (.int .i64 y0)).setCell ⟨g, A * 5 + 1, none⟩ (.int .i64 y1)).setCell ⟨g, A * 5 + 2, none⟩ (.int .i64 y2)).setCell ⟨g, A * 5 + 3, none⟩ (.int .i64 y3)).setCell ⟨g, A * 5 + 4, none⟩ (.int .i64 y4) = W2 at *
    have hlm2 : (lm.set A (y0, y1, y2, y3, y4)).length = n := by rw [List.length_set, hlm]
    obtain ⟨g0, g1, g2, g3, g4⟩ := encLJ_get (lm.set A (y0, y1, y2, y3, y4)) C (by omega)
    have b0 := (HJ2.cellAt hlm2 (C * 5) (by omega)).trans g0
    have b1 := (HJ2.cellAt hlm2 (C * 5 + 1) (by omega)).trans g1
    have b2 := (HJ2.cellAt hlm2 (C * 5 + 2) (by omega)).trans g2
    have b3 := (HJ2.cellAt hlm2 (C * 5 + 3) (by omega)).trans g3
    have b4 := (HJ2.cellAt hlm2 (C * 5 + 4) (by omega)).trans g4
    have fg := fun j => HJ2.freeAt hlm2 j
    have hg1 : g < W2.heap.size := World.block_lt_of_cell? W2 _ b0
    have z0 := blk_cell hX2 0
    have z1 := blk_cell hX2 1
    have z2 := blk_cell hX2 2
    have z3 := blk_cell hX2 3
    have z4 := blk_cell hX2 4
    simp at z0 z1 z2 z3 z4
    have HW2 := Lib.hid (show _ ∧ _ from ⟨HJ2.stored hlm2 C hCn (x0, x1, x2, x3, x4), hB2⟩)
    clear HJ2 hX2 hB2 g0 g1 g2 g3 g4
    generalize nthJ (lm.set A (y0, y1, y2, y3, y4)) C = zz at *
    have HW3 := HW1
    clear HW1
    go_wp2_with fail
    go_roundw
    case rel => exact ⟨k + 1, (lm.set A (y0, y1, y2, y3, y4)).set C (x0, x1, x2, x3, x4), by omega, by go_num, HW2.out.1, HL.out.2.1.trans (by rw [HX.out.1, HX.out.2]; exact set_perm (by omega) (by omega)), (((((HW2.out.2.setCell (p := ⟨g, C * 5, none⟩) hgB (.int .i64 x0)).setCell (p := ⟨g, C * 5 + 1, none⟩) hgB (.int .i64 x1)).setCell (p := ⟨g, C * 5 + 2, none⟩) hgB (.int .i64 x2)).setCell (p := ⟨g, C * 5 + 3, none⟩) hgB (.int .i64 x3)).setCell (p := ⟨g, C * 5 + 4, none⟩) hgB (.int .i64 x4))⟩
    case measure => simp [intOf]; omega
end Go.Proofs.Ythncfhfnboocmaa
