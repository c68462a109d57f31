/- The walk of LinksFewer (layer 13). -/
import Derived.Test.YthncfhfnboocmaaLnkLawC
import Derived.Test.YthncfhfnboocmaaLnkFewM
import Derived.Test.YthncfhfnboocmaaOwnRow
import Derived.Test.YthncfhfnboocmaaHeld
namespace Go.Proofs.Ythncfhfnboocmaa
open Go.ChangeShapes Go.WideShapes Go.ChangeAt Go.RowKit

/-- Marks: what S says of is marked. -/
def Fol (Y : Array Value) (m : Nat) (S : Int → Prop) : Prop := ∀ p : Nat, p < m → ∃ bv : Bool, Y[p]? = some (.bool bv) ∧ (S p → bv = true)
theorem Fol.mono {Y : Array Value} {m : Nat} {S S' : Int → Prop} (h : Fol Y m S) (hs : ∀ p, S' p → S p) : Fol Y m S' := fun p hp => by
  obtain ⟨bv, h1, h2⟩ := h p hp
  exact ⟨bv, h1, fun g => h2 (hs _ g)⟩
theorem Fol.mark {Y : Array Value} {m t : Nat} {S S' : Int → Prop} (h : Fol Y m S) (hs : ∀ p, S' p → S p ∨ p = (t : Int)) : Fol (Y.setIfInBounds t (.bool true)) m S' := fun p hp => by
  obtain ⟨bv, h1, h2⟩ := h p hp
  by_cases e : t = p
  · subst e
    exact ⟨true, by rw [Array.getElem?_setIfInBounds_self, if_pos (Array.getElem?_eq_some_iff.1 h1).1], fun _ => rfl⟩
  · exact ⟨bv, by rw [Array.getElem?_setIfInBounds_ne e, h1], fun g => by
      rcases hs _ g with g | g
      · exact h2 g
      · omega⟩

set_option maxRecDepth 100000 in
set_option maxHeartbeats 16000000 in
theorem linksFewer_walk (a : Option Addr) (b off n cap : Nat) (l : List Jt) (sa : Option Addr) (sb soff sn scap : Nat) (vs : List Int) (tt : Nat) (w : World) (hM : Js w a n b off l) (hn : n ≤ 9223372036854775807) (hwl : ∀ i, i < n → wfJ (nthJ l i)) (hnc : a = none → cap = 0) (hlc : n ≤ cap) (hS : Row w sa sb soff sn vs) (hsn : sn ≤ 9223372036854775807) (ht : tt ≤ 255) :
    Calls Try.prog 9 #[.slice a n cap, .slice sa sn scap, .int .u8 tt] w fun e w' => e = .returned (.bool true) ∧ Below w.heap.size w w' := by
  have hl := hM.1
  have hvl := hS.len
  have HM := Lib.hid (show _ ∧ _ ∧ _ from ⟨hM, hwl, hS⟩)
  clear hM hwl hS
  go_enter Try.func9, Try.ntmps9
  go_wp2_with fail
  refine (sane_any w).mono ?_; rintro e w1 ⟨rfl, hB⟩
  by_cases q0 : n = 0
  · subst q0
    go_wp2
    go_ret
    exact ⟨rfl, hB⟩
  have q0' : ((n : Int) == 0) = false := by simp; omega
  by_cases q1 : 40 < (n : Int)
  · go_wp2
    go_ret
    exact ⟨rfl, hB⟩
  by_cases q2 : 300 < (sn : Int)
  · go_wp2
    go_ret
    exact ⟨rfl, hB⟩
  go_wp2_with fail
  refine (lkValues a sa b off n cap sb soff sn scap l vs _ (HM.out.1.grown hB) hn HM.out.2.1 (HM.out.2.2.below hB (Nat.le_refl _)) hsn).mono ?_; rintro e w2 ⟨v2, rfl, hO2, hb⟩
  replace hB := below_after hB hb hB.size
  clear hb
  by_cases hc : chkL (sn : Int) l = 0
  case neg =>
    clear hO2
    generalize chkL (sn : Int) l = x at *
    have hx : (x == 0) = false := by simpa using hc
    clear hc
    go_wp2
    go_ret
    exact ⟨rfl, hB⟩
  have hG := good_of hc
  have eo : valL l vs = valK l vs sn := by unfold valL; rw [hvl, if_pos hc]
  rw [eo] at hO2
  obtain ⟨a2, b2, c2, ev, R2, -, -⟩ := hO2.row
  rw [valK_len, hvl] at ev R2
  subst ev
  rw [hc]
  have HC := Lib.hid hc
  have hM256 := hG.le
  obtain ⟨I, hI⟩ : ∃ I : Nat, I = tt % n := ⟨_, rfl⟩
  have hIn : I < n := by rw [hI]; exact Nat.mod_lt _ (by omega)
  have et : Int.tmod (tt : Int) (n : Int) = (I : Int) := by rw [hI]; rfl
  have et2 : (tt : Int) % (n : Int) = (I : Int) := by rw [hI]; rfl
  have wI : IntKind.i64.wrap (I : Int) = (I : Int) := wrap_id (by omega)
  have wI1 : IntKind.i64.wrap ((I : Int) + 1) = (I : Int) + 1 := wrap_id (by omega)
  have wt : IntKind.i64.wrap (tt : Int) = (tt : Int) := wrap_id (by omega)
  have HI := Lib.hid hI
  have HG := Lib.hid hG
  have HR := Lib.hid (show _ ∧ _ from ⟨R2, hB⟩)
  clear hO2 eo hG hc hB R2 hI
  obtain ⟨b3, o3, hP3, hN3⟩ := (HM.out.1.grown HR.out.2).post (k := I + 1) (cap := cap) (by omega) hlc hnc
  obtain ⟨a3, ha3⟩ : ∃ a3, a3 = (if cap = I + 1 then a else a.map (·.add ((I + 1) * 5))) := ⟨_, rfl⟩
  rw [← ha3] at hP3 hN3
  have HA3 := Lib.hid ha3
  clear ha3
  have hP2 := (HM.out.1.grown HR.out.2).pre (k := I) (by omega)
  have hle : (lessJ l I).length = n - 1 := by rw [lessJ_len (by omega)]; omega
  have hz2 := HR.out.2.size
  have HP := Lib.hid (show _ ∧ _ ∧ _ ∧ _ from ⟨hP2, hP3, hN3, hle⟩)
  clear hP2 hP3 hN3 hle
  have hn40 : n ≤ 40 := by omega
  go_wp2_with fail
  refine wp_region_from 1 3 (fun w' => Below w2.heap.size w2 w') (by kernel_rfl) (by kernel_rfl) (by decide) (by kernel_rfl) (Below.refl _ _).drew ?_
  simp only [List.drop_succ_cons, List.drop_zero, List.take_succ_cons, List.take_zero]
  refine wpHeld_cons (.slice a n cap) (by kernel_rfl) ?_ ?_
  · rintro w' hS0
    try go_simp
  refine wpHeld_cons (.int .i64 I) (by kernel_rfl) ?_ ?_
  · rintro w' hS0
    try go_simp
  refine wpHeld_cons (.slice a I cap) (by kernel_rfl) ?_ ?_
  · rintro w' hS0
    try go_simp
    try (intro h; exfalso; omega)
  refine wpHeld_nil ?_
  go_simp
  refine wpAnyH_from 5 4 (fun _ _ _ _ _ h => h) (by kernel_rfl) (by decide) (by kernel_rfl) (Below.refl _ _).drew ?_
  simp only [List.drop_succ_cons, List.drop_zero, List.take_succ_cons, List.take_zero]
  refine wpHeld_cons (.slice a n cap) (by kernel_rfl) ?_ ?_
  · rintro w' hS0
    try go_simp
  refine wpHeld_cons (.int .i64 I) (by kernel_rfl) ?_ ?_
  · rintro w' hS0
    try go_simp
  refine wpHeld_cons (.int .i64 ((I : Int) + 1)) (by kernel_rfl) ?_ ?_
  · rintro w' hS0
    try go_simp
  refine wpHeld_cons (.slice a3 (n - (I + 1) : Nat) (cap - (I + 1) : Nat)) (by kernel_rfl) ?_ ?_
  · rintro w' hS0
    rw [HA3.out]
    try go_simp
    intro h
    exfalso
    have := h (by omega)
    omega
  refine wpHeld_nil ?_
  go_simp
  refine wpAnyH_one (i := 0) (by kernel_rfl) rfl (by kernel_rfl) (fun K' hK' => ?_)
  go_simp
  have hC0 : Below w2.heap.size w2 (w2.drew.alloc (.cells #[] 34)) := (Below.refl _ _).drew.alloc (by show w2.heap.size ≤ w2.heap.size; omega) _
  refine hK' _ _ hC0 ?_
  clear hK' K'
  refine wpAnyH_one (i := 4) (by kernel_rfl) rfl (by kernel_rfl) (fun K' hK' => ?_)
  refine wp_append_Js (.tmp 45) (.tmp 48) (by rfl) w2.heap.size _ [] (by rfl) (JsO.empty w2.drew) a b off I cap _ (by rfl) (HP.out.1.grown hC0) hnc (by simp; omega) (by simp) ?_
  intro v1 w3 hO1 hB1 hgx
  clear hgx
  have hC1 := hC0.trans hB1
  rw [List.nil_append] at hO1
  have hs1 := hC1.size
  refine hK' _ _ hC1 ?_
  clear hK' K'
  refine wpAnyH_one (i := 9) (by kernel_rfl) rfl (by kernel_rfl) (fun K' hK' => ?_)
  refine wp_append_Js (.tmp 49) (.tmp 53) (by rfl) w2.heap.size _ _ (by rfl) hO1 _ b3 o3 (n - (I + 1)) (cap - (I + 1)) _ (by rfl) (HP.out.2.1.grown hC1) HP.out.2.2.1 (by simp; omega) hs1 ?_
  intro v2 w4 hO2 hB2 hgx
  clear hgx
  have hC2 := hC1.trans hB2
  refine hK' _ _ hC2 ?_
  clear hK' K'
  refine wpAnyH_one (i := 10) (by kernel_rfl) rfl (by kernel_rfl) (fun K' hK' => ?_)
  go_simp
  refine hK' _ _ hC2 ?_
  clear hK' K'
  refine wpAnyH_done (by kernel_rfl) ?_ _
  refine NoPanic.normal ?_
  go_wp2_with fail
  obtain ⟨a4, b4, c4, rfl, hM4, hk4, hn4, hlc4, hcm4⟩ := hO2.s
  have hle := HP.out.2.2.2
  have hg4 := less_good HG.out (i := I) (by omega)
  have hB4 := below_after HR.out.2 hC2 HR.out.2.size
  have R4 := HR.out.1.below hC2 (Nat.le_refl _)
  have hw4 : ∀ j, j < (lessJ l I).length → wfJ (nthJ (lessJ l I) j) := fun j hj => by
    obtain ⟨k, hk, _, e⟩ := lessJ_mem (by omega) hj
    rw [e]; exact HM.out.2.1 k (by omega)
  have hM4' : Js w4 a4 (lessJ l I).length b4 0 (lessJ l I) := hM4
  rw [show (l.take I ++ l.drop (I + 1)).length = (lessJ l I).length from rfl]
  have hkeep : ∀ p : Nat, p < sn → ¬ foll (lessJ l I) (nthJ l I).2.1 (n - 1) (p : Int) → (valK l vs sn).getD p 0 = (valK (lessJ l I) vs sn).getD p 0 := fun p hp hf => by
    have := less_keeps (vs := vs) (by rw [hvl]; exact HG.out) (i := I) (p := p) (by omega) (by omega) (by rw [hle]; exact hf)
    rwa [hvl] at this
  have hT := (HG.out.ok I (by omega)).2.2.1
  have cT : ∀ W, Below w.heap.size w W → W.cell? ⟨b, off + I * 5 + 1, none⟩ = some (.int .i64 (nthJ l I).2.1) := fun W hW => ((HM.out.1.grown hW).2.2 I (by omega)).2.1
  obtain ⟨T, eT⟩ : ∃ T : Nat, (nthJ l I).2.1 = T := ⟨(nthJ l I).2.1.toNat, by omega⟩
  rw [eT] at hkeep hT cT
  clear hM4 hO2 hO1 hB1 hB2 hC0 hC1 hC2 hs1
  rw [hle] at hM4' ⊢
  have hlv := lkValues a4 sa b4 0 (n - 1) c4 sb soff sn scap (lessJ l I) vs w4 hM4' (by omega) (fun j hj => hw4 j (by omega)) (HM.out.2.2.below hB4 (Nat.le_refl _)) hsn
  rw [hg4.chk] at hlv
  have HH := Lib.hid (show _ ∧ _ ∧ _ ∧ _ ∧ _ ∧ _ from ⟨hM4', R4, hB4, hg4, hkeep, cT⟩)
  have HW := Lib.hid hw4
  obtain ⟨rfl, hbw⟩ := HM.out.1.2.1 (by omega)
  have eo : valL (lessJ l I) vs = valK (lessJ l I) vs sn := by unfold valL; rw [hvl, if_pos hg4.chk]
  generalize lessJ l I = L at *
  rw [eo] at hlv
  clear hM4' R4 hB4 hg4 hkeep cT hw4 eo
  refine hlv.mono ?_; rintro e w5 ⟨v5, rfl, hO5, hb⟩
  obtain ⟨a5, b5, c5, ev, R5, -, -⟩ := hO5.row
  rw [valK_len, hvl] at ev R5
  subst ev
  clear hO5 hlv
  obtain ⟨F, hF, hmk⟩ := mk_bools sn hM256
  have HF := Lib.hid hF
  have hg := blk_new w5 (.cells F 4)
  obtain ⟨g, hgd⟩ : ∃ g, g = w5.heap.size := ⟨_, rfl⟩
  have bg : Below w5.heap.size w5 (w5.alloc (.cells F 4)) := (Below.refl _ _).alloc (Nat.le_refl _) _
  have hB5 := below_after HH.out.2.2.1 hb HH.out.2.2.1.size
  have hsz5 := hb.size
  have HS := Lib.hid (show _ ∧ _ ∧ _ ∧ _ ∧ _ ∧ _ ∧ _ ∧ _ from ⟨HH.out.1.grown hb, HH.out.2.1.below hb (Nat.le_refl _), R5, hB5, hg, HH.out.2.1.old, R5.old, fun h => (HH.out.1.2.1 h).2⟩)
  have hgs := hB5.size
  have cT5 := HH.out.2.2.2.2.2 _ (below_after hB5 bg hB5.size)
  have T2 : (T : Int) < (sn : Int) := hT.2
  clear hg bg hB5 hb hF R5
  have cg0 := (blk_cell HS.out.2.2.2.2.1 T).trans (HF.out T (by omega))
  have fg0 := blk_free HS.out.2.2.2.2.1 T
  have hg1 := cells_setJ (i := T) (v := .bool true) HS.out.2.2.2.2.1
  have hbw5 : b < w5.heap.size := by omega
  have HG1 := Lib.hid hg1
  clear hg1
  go_wp2_with fail
  clear cg0 fg0 cT5
  rw [← hgd] at HS HG1 hgs ⊢
  have HGD := Lib.hid hgd
  clear hgd hmk
  go_loopw [14] (fun i wr => ∃ (r : Nat) (Y : Array Value), r ≤ n ∧ i = .int .i64 r ∧ wr.heap[g]? = some (.cells Y 4 (0, 0)) ∧ Fol Y sn (foll L T r) ∧ Below g w5 wr) (fun i _ => n - (intOf i).toNat)
  case atStart => exact ⟨0, _, Nat.zero_le _, rfl, (by rw [HGD.out]; exact blk_new _ _), Fol.mark (S := fun _ => False) (fun p hp => ⟨false, HF.out p hp, fun h => h.elim⟩) (fun p h => by
    obtain ⟨d, hd, e⟩ := h
    obtain rfl : d = 0 := by omega
    exact .inr (by injection e)), (Below.refl _ _).alloc (by rw [HGD.out]; exact Nat.le_refl _) _⟩
  case round =>
    obtain ⟨r, Y, hr, rfl, hY, hYp, hBg⟩ := hrel
    have hBr : Below w.heap.size w wr := HS.out.2.2.2.1.trans (hBg.mono hgs)
    by_cases hlt : r < n
    case neg =>
      obtain rfl : r = n := by omega
      have HY := Lib.hid (show _ ∧ _ ∧ _ ∧ _ from ⟨hY, hYp, hBr, hBg⟩)
      have hgr := (Array.getElem?_eq_some_iff.1 hY).1
      clear hY hYp hBr hBg
      generalize wr = W0 at *
      go_wp2
      go_loopw [16] (fun i wr => ∃ (p : Nat), p ≤ sn ∧ i = .int .i64 p ∧ Below W0.heap.size W0 wr) (fun i _ => sn - (intOf i).toNat)
      case atStart => exact ⟨0, Nat.zero_le _, rfl, Below.refl _ _⟩
      case round =>
        obtain ⟨p, hp, rfl, hb⟩ := hrel
        have hB := below_after HY.out.2.2.1 hb HY.out.2.2.1.size
        by_cases hlt : p < sn
        case neg =>
          obtain rfl : p = sn := by omega
          clear hb
          have HB := Lib.hid hB; clear hB
          go_wp2
          go_ret
          exact ⟨rfl, HB.out⟩
        have i1 : (p : Int) < (sn : Int) := by omega
        have up : IntKind.i64.wrap ((p : Int) + 1) = (p : Int) + 1 := wrap_id (by omega)
        have hYb := blk_below HY.out.1 hb (Array.getElem?_eq_some_iff.1 HY.out.1).1
        obtain ⟨bv, ev, hbv⟩ := HY.out.2.1 p hlt
        have cy := (blk_cell hYb p).trans ev
        have hgr2 := (Array.getElem?_eq_some_iff.1 hYb).1
        cases bv
        · have hgd' := HGD.out
          have hRa := (HS.out.2.1.low HY.out.2.2.2 (fun h => by have := HS.out.2.2.2.2.2.1 h; omega)).below hb (Nat.le_refl _)
          have hRb := (HS.out.2.2.1.low HY.out.2.2.2 (fun h => by have := HS.out.2.2.2.2.2.2.1 h; omega)).below hb (Nat.le_refl _)
          have ca := hRa.cel p hlt
          have cb := hRb.cel p hlt
          have hk := HH.out.2.2.2.2.1 p hlt (fun ⟨d, hd, e⟩ => by
            have := hbv ⟨d, by omega, e⟩
            cases this)
          rw [hk, Nat.zero_add] at ca
          rw [Nat.zero_add] at cb
          generalize (valK L vs sn).getD p 0 = y at *
          obtain rfl := hRa.adr (by omega)
          obtain rfl := hRb.adr (by omega)
          have ho1 := hRa.old (by omega)
          have ho2 := hRb.old (by omega)
          have HB := Lib.hid hb
          clear hb hB hYb ev hbv hRa hRb hk hgd'
          go_wp2
          go_quiet (fail)
          go_wp2
          go_roundw
          case rel => exact ⟨p + 1, by omega, by go_num, below_drewN HB.out _⟩
          case measure => simp [intOf]; omega
        · have HB := Lib.hid hb
          clear hb hB hYb ev hbv
          go_wp2
          go_quiet (fail)
          go_wp2
          go_roundw
          case rel => exact ⟨p + 1, by omega, by go_num, below_drewN HB.out _⟩
          case measure => simp [intOf]; omega
    have i1 : (r : Int) < (n : Int) := by omega
    have ur : IntKind.i64.wrap ((r : Int) + 1) = (r : Int) + 1 := wrap_id (by omega)
    have HY := Lib.hid (show _ ∧ _ ∧ _ from ⟨hY, hYp, hBg⟩)
    clear hY hYp hBg hBr
    generalize wr = W0 at *
    go_wp2
    go_loopw [15] (fun i wr => ∃ (k : Nat) (Y : Array Value), k ≤ n - 1 ∧ i = .int .i64 k ∧ wr.heap[g]? = some (.cells Y 4 (0, 0)) ∧ Fol Y sn (fun p => foll L T r p ∨ ∃ j, j < k ∧ (nthJ L j).2.1 = p ∧ foll L T r (nthJ L j).1) ∧ Below g w5 wr) (fun i _ => n - 1 - (intOf i).toNat)
    case atStart => exact ⟨0, Y, Nat.zero_le _, rfl, HY.out.1, HY.out.2.1.mono (fun p h => by
      rcases h with h | ⟨j, hj, _⟩
      · exact h
      · omega), HY.out.2.2⟩
    case round =>
      obtain ⟨k, Y, hk, rfl, hY, hYp, hBg⟩ := hrel
      have hBr : Below w.heap.size w wr := HS.out.2.2.2.1.trans (hBg.mono hgs)
      by_cases hlt : k < n - 1
      case neg =>
        have ek : k = n - 1 := by omega
        have HZ := Lib.hid (show _ ∧ _ ∧ _ ∧ _ from ⟨hY, hYp, hBg, ek⟩)
        have nk : ¬ ((k : Int) < ((n - 1 : Nat) : Int)) := by omega
        clear hY hYp hBg hBr ek
        go_wp2
        go_roundw
        case rel => exact ⟨r + 1, Y, by omega, by go_num, HZ.out.1, HZ.out.2.1.mono (fun p h => by
          rcases foll_next h with h | ⟨j, hj, h1, h2⟩
          · exact .inl h
          · exact .inr ⟨j, by have := HP.out.2.2.2; have := HZ.out.2.2.2; omega, h1, h2⟩), HZ.out.2.2.1⟩
        case measure => simp [intOf]; omega
      have i2 : (k : Int) < ((n - 1 : Nat) : Int) := by omega
      have uk : IntKind.i64.wrap ((k : Int) + 1) = (k : Int) + 1 := wrap_id (by omega)
      have hb4 := HS.out.2.2.2.2.2.2.2 (by omega)
      have hb4g : b4 < g := by have := hsz5; have := HGD.out; omega
      obtain ⟨c0, c1, -, -, -⟩ := (HS.out.1.below hBg hb4g).2.2 k hlt
      obtain ⟨rfl, -⟩ := HS.out.1.2.1 (by omega)
      have ok := HH.out.2.2.2.1.ok k (by have := HP.out.2.2.2; omega)
      obtain ⟨f, hf⟩ : ∃ f : Nat, (nthJ L k).1 = f := ⟨(nthJ L k).1.toNat, by have := ok.2.1; omega⟩
      obtain ⟨t, ht⟩ : ∃ t : Nat, (nthJ L k).2.1 = t := ⟨(nthJ L k).2.1.toNat, by have := ok.2.2.1; omega⟩
      have hf0 := ok.2.1; have ht0 := ok.2.2.1
      rw [hf, Nat.zero_add] at c0
      rw [hf] at hf0
      rw [ht, Nat.zero_add] at c1
      rw [ht] at ht0
      have f2 : (f : Int) < (sn : Int) := hf0.2
      have t2 : (t : Int) < (sn : Int) := ht0.2
      obtain ⟨bf, ef, hbf⟩ := hYp f (by omega)
      obtain ⟨bt, et', -⟩ := hYp t (by omega)
      have cf := (blk_cell hY f).trans ef
      have ct := (blk_cell hY t).trans et'
      have ft := blk_free hY t
      have hY1 := cells_setJ (i := t) (v := .bool true) hY
      have hgr := (Array.getElem?_eq_some_iff.1 hY).1
      have hb4r : b4 < wr.heap.size := by have := hBg.size; omega
      have HZ := Lib.hid (show _ ∧ _ ∧ _ ∧ _ ∧ _ ∧ _ ∧ _ from ⟨hY, hYp, hBg, hY1, hf, ht, hbf⟩)
      have d0 : decide ((0 : Int) ≤ (f : Int)) = true := decide_eq_true (by omega)
      have d0' : decide ((0 : Int) ≤ (t : Int)) = true := decide_eq_true (by omega)
      have d1 : decide ((f : Int) < (sn : Int)) = true := decide_eq_true (by omega)
      have d2 : decide ((t : Int) < (sn : Int)) = true := decide_eq_true (by omega)
      have nb4 : b4 ≠ g := by omega
      clear hY hYp hBg hBr hY1 hf ht hf0 ht0 ok ef et' hbf
      cases bf
      · go_wp2
        go_roundw
        case rel => exact ⟨k + 1, Y, by omega, by go_num, HZ.out.1, HZ.out.2.1.mono (fun p h => by
          rcases h with h | ⟨j, hj, h1, h2⟩
          · exact .inl h
          · by_cases e : j = k
            · subst e
              have := HZ.out.2.2.2.2.2.2 (.inl (by rw [← HZ.out.2.2.2.2.1]; exact h2))
              cases this
            · exact .inr ⟨j, by omega, h1, h2⟩), HZ.out.2.2.1⟩
        case measure => simp [intOf]; omega
      · go_wp2
        go_roundw
        case rel => exact ⟨k + 1, _, by omega, by go_num, HZ.out.2.2.2.1, HZ.out.2.1.mark (fun p h => by
          rcases h with h | ⟨j, hj, h1, h2⟩
          · exact .inl (.inl h)
          · by_cases e : j = k
            · subst e
              exact .inr (by rw [← h1, HZ.out.2.2.2.2.2.1])
            · exact .inl (.inr ⟨j, by omega, h1, h2⟩)), HZ.out.2.2.1.setCell (p := ⟨g, t, none⟩) (Nat.le_refl _) _⟩
        case measure => simp [intOf]; omega
end Go.Proofs.Ythncfhfnboocmaa
