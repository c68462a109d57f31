/- DiskReads (layer 4). -/
import Derived.Test.YtbimmahlcceadaaDskSane
import Derived.Test.YtbimmahlcceadaaDskMath
import Derived.Test.YtbimmahlcceadaaDskFew0
namespace Go.Proofs.Ytbimmahlcceadaa
open Go.ChangeShapes Go.WideShapes Go.ChangeAt Go.RowKit
theorem rdK_row {P : List Wr} {a : Int} {b : Sl} (Q : Sl → Prop) (hb : Q b) : ∀ k, (∀ j, j < k → Q (nW P j).2) → Q (rdK P a b k)
  | 0, _ => hb
  | k + 1, h => by
    unfold rdK
    split
    · exact h k (by omega)
    · exact rdK_row Q hb k (fun j hj => h j (by omega))
set_option linter.unusedVariables false in
set_option maxRecDepth 100000 in
set_option maxHeartbeats 4000000 in
theorem diskReads_walk (S : List Sl) (P : List Wr) (lf : Int) (st : Bool) (sa : Option Addr) (sb so sn sc : Nat) (pa : Option Addr) (pb po pn pc : Nat) (i o : Int) (X C : Sl) (w : World) (hS : Secs w sa sb so sn S) (hP : Pens w pa pb po pn P) (hsn : sn ≤ 9223372036854775807) (hpn : pn ≤ 9223372036854775807) (hpc : pn ≤ pc) (hpz : pa = none → pc = 0) (hsz : sa = none → sc = 0) (hX : SlR w X) (hC : SlR w C) (hlX : X.2.2.length ≤ 9223372036854775807) (hlC : C.2.2.length ≤ 9223372036854775807) :
    Calls Try.prog 7 #[.agg #[.slice sa sn sc, .slice pa pn pc, .int .i64 lf, .bool st], .int .i64 i, .int .i64 o, .slice X.1 X.2.2.length X.2.1, .slice C.1 C.2.2.length C.2.1] w fun e w' => e = .returned (.bool true) ∧ Below w.heap.size w w' := by
  have HA := Lib.hid (show _ ∧ _ ∧ _ ∧ _ from ⟨hS, hP, hX, hC⟩)
  clear hS hP hX hC
  go_enter Try.func7, Try.ntmps7
  have HW := Lib.hid (Below.refl w.heap.size w)
  go_upto_region 1 with fail
  have H1 := Lib.hid (show _ ∧ _ from ⟨below_after HW.out ((Below.refl w.heap.size w).alloc (Nat.le_refl _) (.cells #[.slice sa sn sc, .slice pa pn pc, .int .i64 lf, .bool st] 25)) HW.out.size, blk_new w (.cells #[.slice sa sn sc, .slice pa pn pc, .int .i64 lf, .bool st] 25)⟩)
  have hzW1 : w.heap.size < (w.alloc (.cells #[.slice sa sn sc, .slice pa pn pc, .int .i64 lf, .bool st] 25)).heap.size := by simp
  generalize w.alloc (.cells #[.slice sa sn sc, .slice pa pn pc, .int .i64 lf, .bool st] 25) = W1 at *
  go_wp2_with fail
  refine (sane_any _).mono ?_
  rintro e W2 ⟨hp, hb⟩
  subst hp
  have H2 := Lib.hid (show _ ∧ _ from ⟨below_after H1.out.1 hb H1.out.1.size, blk_below H1.out.2 hb (blk_lt H1.out.2)⟩)
  clear hb
  have xd0 := blk_cell H2.out.2 0
  have xd1 := blk_cell H2.out.2 1
  have xd2 := blk_cell H2.out.2 2
  have xd3 := blk_cell H2.out.2 3
  go_wp2_with fail
  clear xd0 xd1 xd2 xd3
  refine (few_all S P lf st sa sb so sn sc pa pb po pn pc _ (HA.out.1.below H2.out.1 (Nat.le_refl _)) (HA.out.2.1.below H2.out.1 (Nat.le_refl _)) (by omega) (by omega)).mono ?_
  rintro e W3 ⟨hp, hb⟩
  obtain ⟨r, rfl⟩ := hp
  have H3 := Lib.hid (show _ ∧ _ from ⟨below_after H2.out.1 hb H2.out.1.size, blk_below H2.out.2 hb (blk_lt H2.out.2)⟩)
  clear hb
  cases r
  case false =>
    go_wp2
    go_ret
    exact ⟨rfl, H3.out.1⟩
  have hl0 : ((X.2.2.length : Nat) : Int) ≤ 9223372036854775807 := by omega
  have hl1 : ((C.2.2.length : Nat) : Int) ≤ 9223372036854775807 := by omega
  by_cases hl : 128 < X.2.2.length
  · have c1 : (128 : Int) < ((X.2.2.length : Nat) : Int) := by omega
    go_wp2
    go_ret
    exact ⟨rfl, H3.out.1⟩
  have c1 : ¬ (128 : Int) < ((X.2.2.length : Nat) : Int) := by omega
  by_cases hm : 128 < C.2.2.length
  · have c2 : (128 : Int) < ((C.2.2.length : Nat) : Int) := by omega
    go_wp2
    go_ret
    exact ⟨rfl, H3.out.1⟩
  have c2 : ¬ (128 : Int) < ((C.2.2.length : Nat) : Int) := by omega
  have hlX' : X.2.2.length ≤ 128 := by omega
  have hlC' : C.2.2.length ≤ 128 := by omega
  clear hl hm hl0 hl1
  by_cases he : runB ⟨S, P, lf, st⟩ = true ∧ 0 ≤ o ∧ o < (sn : Int)
  · obtain rfl := runB_stp he.1
    have HV := Lib.hid (runB_valid he.1)
    have HE := Lib.hid he
    clear he
    obtain ⟨q, rfl⟩ := Int.eq_ofNat_of_zero_le HE.out.2.1
    have hq : q < sn := by have := HE.out.2.2; omega
    have hSl := HA.out.1.len
    have hPl := HA.out.2.1.len
    obtain ⟨V, hV⟩ : ∃ V, rdK P (q : Int) (nS S q) pn = V := ⟨_, rfl⟩
    have hVr : SlR w V := by rw [← hV]; exact rdK_row (SlR w) (HA.out.1.row _ hq) pn (fun j hj => HA.out.2.1.row j hj)
    have hVl : V.2.2.length = 128 := by rw [← hV]; exact rd_len (HV.out.2.1 q (by dsimp only; omega)) pn (fun j hj => (HV.out.2.2 j (by dsimp only; omega)).2.2)
    have HVr := Lib.hid hVr
    have HVe := Lib.hid hV
    clear hVr hV
    have xd0 := blk_cell H3.out.2 0
    have xd1 := blk_cell H3.out.2 1
    have xd2 := blk_cell H3.out.2 2
    have xd3 := blk_cell H3.out.2 3
    go_wp2_with fail
    clear xd0 xd1 xd2 xd3
    refine (read_ok S P lf sa sb so sn sc pa pb po pn pc (q : Int) _ (HA.out.1.below H3.out.1 (Nat.le_refl _)) (HA.out.2.1.below H3.out.1 (Nat.le_refl _)) (by omega) (by omega) HE.out.1 HE.out.2.1 HE.out.2.2 V HVe.out 128 hVl).mono ?_
    rintro e W4 ⟨hp, hb⟩
    subst hp
    have H4 := Lib.hid (show _ ∧ _ from ⟨below_after H3.out.1 hb H3.out.1.size, blk_below H3.out.2 hb (blk_lt H3.out.2)⟩)
    clear hb
    by_cases hw : (0 ≤ i ∧ i < (sn : Int)) ∧ pn < 4096
    · obtain ⟨hi, hp4⟩ := hw
      obtain ⟨p, rfl⟩ := Int.eq_ofNat_of_zero_le hi.1
      have hp' : p < sn := by have := hi.2; omega
      have HI := Lib.hid hi
      clear hi
      obtain ⟨n1, hn1⟩ : ∃ n1, n1 = pn + 1 := ⟨_, rfl⟩
      have HN1 := Lib.hid hn1
      have hn1' : n1 ≤ 4096 := by omega
      clear hn1
      have xd0 := blk_cell H4.out.2 0
      have xd1 := blk_cell H4.out.2 1
      have xd2 := blk_cell H4.out.2 2
      have xd3 := blk_cell H4.out.2 3
      go_wp2_with fail
      clear xd0 xd1 xd2 xd3
      refine (write_ok S P lf sa sb so sn sc pa pb po pn pc (p : Int) X n1 _ (HA.out.1.below H4.out.1 (Nat.le_refl _)) (HA.out.2.1.below H4.out.1 (Nat.le_refl _)) (HA.out.2.2.1.below H4.out.1 (Nat.le_refl _)) (by omega) hpc HE.out.1 HI.out.1 HI.out.2 hlX' hp4 HN1.out).mono ?_
      rintro e W5 ⟨hp, hb⟩
      obtain ⟨qa, qb, qc, Y1, hY1, hqc, -, hYg, hP1, rfl⟩ := hp
      have H5 := Lib.hid (show _ ∧ _ ∧ _ ∧ _ from ⟨below_after H4.out.1 hb H4.out.1.size, blk_below H4.out.2 hb (blk_lt H4.out.2), hP1, hYg.r⟩)
      clear hb
      have hY1l : Y1.2.2.length = 128 := by rw [hY1]; exact padL_len hlX'
      obtain ⟨P1, hP1e⟩ : ∃ P1, P1 = P ++ [((p : Int), Y1)] := ⟨_, rfl⟩
      have hV1 : Valid ⟨S, P1, lf, false⟩ := by rw [hP1e]; exact valid_snoc HV.out ⟨by show (0 : Int) ≤ p; omega, by show (p : Int) < (S.length : Int); omega, hY1l⟩ (by omega)
      have HY1 := Lib.hid hY1
      have HP1 := Lib.hid hP1e
      have HV1 := Lib.hid hV1
      have hP1l : P1.length = n1 := by rw [hP1e, List.length_append, HN1.out]; simp; omega
      clear hY1 hV1 hYg
      rw [← hP1e] at hP1 H5
      clear hP1 hP1e
      go_upto_region 7 with fail
      have H6 := Lib.hid (show _ ∧ _ ∧ _ ∧ _ ∧ _ from ⟨below_after H5.out.1 ((Below.refl W5.heap.size W5).alloc (Nat.le_refl _) (.cells #[.slice sa sn sc, .slice qa n1 qc, .int .i64 lf, .bool false] 25)) H5.out.1.size, blk_below H5.out.2.1 ((Below.refl W5.heap.size W5).alloc (Nat.le_refl _) (.cells #[.slice sa sn sc, .slice qa n1 qc, .int .i64 lf, .bool false] 25)) (blk_lt H5.out.2.1), H5.out.2.2.1.below ((Below.refl W5.heap.size W5).alloc (Nat.le_refl _) (.cells #[.slice sa sn sc, .slice qa n1 qc, .int .i64 lf, .bool false] 25)) (Nat.le_refl _), H5.out.2.2.2.below ((Below.refl W5.heap.size W5).alloc (Nat.le_refl _) (.cells #[.slice sa sn sc, .slice qa n1 qc, .int .i64 lf, .bool false] 25)) (Nat.le_refl _), blk_new W5 (.cells #[.slice sa sn sc, .slice qa n1 qc, .int .i64 lf, .bool false] 25)⟩)
      have hzW6 : W5.heap.size < (W5.alloc (.cells #[.slice sa sn sc, .slice qa n1 qc, .int .i64 lf, .bool false] 25)).heap.size := by simp
      generalize W5.alloc (.cells #[.slice sa sn sc, .slice qa n1 qc, .int .i64 lf, .bool false] 25) = W6 at *
      obtain ⟨A1, hA1⟩ : ∃ A1, rdK P1 (q : Int) (nS S q) n1 = A1 := ⟨_, rfl⟩
      have HA1 : Hid ((p = q → A1 = Y1) ∧ (p ≠ q → A1 = V)) := Lib.hid (by
        rw [HP1.out, HN1.out, rd_snoc hPl] at hA1
        constructor
        · intro e; rw [← hA1, if_pos (by show (p : Int) = q; omega)]
        · intro e; rw [← hA1, if_neg (by show ¬ (p : Int) = q; omega)]; exact HVe.out)
      have hA1l : A1.2.2.length = 128 := by
        by_cases e : p = q
        · rw [HA1.out.1 e]; exact hY1l
        · rw [HA1.out.2 e]; exact hVl
      have HA1e := Lib.hid hA1
      clear hA1
      have xx0 := blk_cell H6.out.2.2.2.2 0
      have xx1 := blk_cell H6.out.2.2.2.2 1
      have xx2 := blk_cell H6.out.2.2.2.2 2
      have xx3 := blk_cell H6.out.2.2.2.2 3
      go_wp2_with fail
      clear xx0 xx1 xx2 xx3
      refine (read_ok S P1 lf sa sb so sn sc qa qb 0 n1 qc (q : Int) _ (HA.out.1.below H6.out.1 (Nat.le_refl _)) H6.out.2.2.1 (by omega) (by omega) (runB_t HV1.out rfl) HE.out.2.1 HE.out.2.2 A1 HA1e.out 128 hA1l).mono ?_
      rintro e W7 ⟨hp, hb⟩
      subst hp
      have H7 := Lib.hid (show _ ∧ _ ∧ _ ∧ _ ∧ _ from ⟨below_after H6.out.1 hb H6.out.1.size, blk_below H6.out.2.1 hb (blk_lt H6.out.2.1), H6.out.2.2.1.below hb (Nat.le_refl _), H6.out.2.2.2.1.below hb (Nat.le_refl _), blk_below H6.out.2.2.2.2 hb (blk_lt H6.out.2.2.2.2)⟩)
      clear hb
      have hM1 : rdK P1 (p : Int) (nS S p) n1 = Y1 := by rw [HP1.out, HN1.out, rd_snoc hPl, if_pos rfl]
      have HM1 := Lib.hid hM1
      clear hM1
      have xx0 := blk_cell H7.out.2.2.2.2 0
      have xx1 := blk_cell H7.out.2.2.2.2 1
      have xx2 := blk_cell H7.out.2.2.2.2 2
      have xx3 := blk_cell H7.out.2.2.2.2 3
      go_wp2_with fail
      clear xx0 xx1 xx2 xx3
      refine (read_ok S P1 lf sa sb so sn sc qa qb 0 n1 qc (p : Int) _ (HA.out.1.below H7.out.1 (Nat.le_refl _)) H7.out.2.2.1 (by omega) (by omega) (runB_t HV1.out rfl) HI.out.1 HI.out.2 Y1 HM1.out 128 hY1l).mono ?_
      rintro e W8 ⟨hp, hb⟩
      subst hp
      have H8 := Lib.hid (show _ ∧ _ ∧ _ ∧ _ ∧ _ from ⟨below_after H7.out.1 hb H7.out.1.size, blk_below H7.out.2.1 hb (blk_lt H7.out.2.1), H7.out.2.2.1.below hb (Nat.le_refl _), H7.out.2.2.2.1.below hb (Nat.le_refl _), blk_below H7.out.2.2.2.2 hb (blk_lt H7.out.2.2.2.2)⟩)
      clear hb
      go_upto_region 11 with fail
      have hY1c : 128 ≤ Y1.2.1 := by obtain ⟨_, _, _, _, h⟩ := H8.out.2.2.2.1; omega
      have i1 : X.2.2.length ≤ Y1.2.1 := by omega
      have i2 : ((X.2.2.length : Nat) : Int) ≤ (Y1.2.1 : Int) := by omega
      have i3 : ((X.2.2.length : Nat) : Int) ≤ 128 := by omega
      have HvY := Lib.hid (slr_convN ((H8.out.2.2.2.1).preL (l := X.2.2) HY1.out))
      have HvX := Lib.hid (slr_convN (HA.out.2.2.1.below H8.out.1 (Nat.le_refl _)))
      have HvV := Lib.hid (slr_convN (HVr.out.below H8.out.1 (Nat.le_refl _)))
      rw [hVl] at HvV
      have vY := HvY.out
      have vX := HvX.out
      have vV := HvV.out
      dsimp only at vY
      obtain ⟨E, hE⟩ : ∃ E : Bool, ((p : Int) != (q : Int)) = E := ⟨_, rfl⟩
      by_cases hpq : p = q
      · have e1 : ((p : Int) != (q : Int)) = false := by simp; omega
        clear hE vV
        go_quiet (fail)
        go_upto_region 13 with fail
        clear e1 hpq vY vX HvY HvX HvV i1 i2 i3 hY1c
        have hbq := below_drewN (n := nq) (Below.refl W8.heap.size W8)
        have H9 := Lib.hid (show _ ∧ _ ∧ _ ∧ _ from ⟨below_after H8.out.1 hbq H8.out.1.size, blk_below H8.out.2.1 hbq (blk_lt H8.out.2.1), H8.out.2.2.1.below hbq (Nat.le_refl _), blk_below H8.out.2.2.2.2 hbq (blk_lt H8.out.2.2.2.2)⟩)
        clear hbq
        generalize W8.drewN nq = W9 at *
        by_cases h4 : n1 < 4096
        · obtain ⟨n2, hn2⟩ : ∃ n2, n2 = n1 + 1 := ⟨_, rfl⟩
          have HN2 := Lib.hid hn2
          have hn2' : n2 ≤ 4096 := by omega
          clear hn2
          have xx0 := blk_cell H9.out.2.2.2 0
          have xx1 := blk_cell H9.out.2.2.2 1
          have xx2 := blk_cell H9.out.2.2.2 2
          have xx3 := blk_cell H9.out.2.2.2 3
          go_wp2_with fail
          clear xx0 xx1 xx2 xx3
          refine (write_ok S P1 lf sa sb so sn sc qa qb 0 n1 qc (q : Int) C n2 _ (HA.out.1.below H9.out.1 (Nat.le_refl _)) H9.out.2.2.1 (HA.out.2.2.2.below H9.out.1 (Nat.le_refl _)) (by omega) hqc (runB_t HV1.out rfl) HE.out.2.1 HE.out.2.2 hlC' h4 HN2.out).mono ?_
          rintro e W10 ⟨hp, hb⟩
          obtain ⟨ra, rb, rc, Y2, hY2, hrc, -, hY2g, hP2, rfl⟩ := hp
          have H10 := Lib.hid (show _ ∧ _ ∧ _ ∧ _ ∧ _ from ⟨below_after H9.out.1 hb H9.out.1.size, blk_below H9.out.2.1 hb (blk_lt H9.out.2.1), H9.out.2.2.1.below hb (Nat.le_refl _), blk_below H9.out.2.2.2 hb (blk_lt H9.out.2.2.2), hP2⟩)
          clear hb
          have hY2l : Y2.2.2.length = 128 := by rw [hY2]; exact padL_len hlC'
          obtain ⟨P2, hP2e⟩ : ∃ P2, P2 = P1 ++ [((q : Int), Y2)] := ⟨_, rfl⟩
          have hV2 : Valid ⟨S, P2, lf, false⟩ := by rw [hP2e]; exact valid_snoc HV1.out ⟨by show (0 : Int) ≤ q; omega, by show (q : Int) < (S.length : Int); omega, hY2l⟩ (by omega)
          have HV2 := Lib.hid hV2
          have hP2l : P2.length = n2 := by rw [hP2e, List.length_append, HN2.out]; simp; omega
          clear hV2 hY2g hY2
          rw [← hP2e] at hP2 H10
          clear hP2 hP2e
          go_upto_region 14 with fail
          have H11 := Lib.hid (show _ ∧ _ ∧ _ ∧ _ ∧ _ ∧ _ from ⟨below_after H10.out.1 ((Below.refl W10.heap.size W10).alloc (Nat.le_refl _) (.cells #[.slice sa sn sc, .slice ra n2 rc, .int .i64 lf, .bool false] 25)) H10.out.1.size, blk_below H10.out.2.1 ((Below.refl W10.heap.size W10).alloc (Nat.le_refl _) (.cells #[.slice sa sn sc, .slice ra n2 rc, .int .i64 lf, .bool false] 25)) (blk_lt H10.out.2.1), H10.out.2.2.1.below ((Below.refl W10.heap.size W10).alloc (Nat.le_refl _) (.cells #[.slice sa sn sc, .slice ra n2 rc, .int .i64 lf, .bool false] 25)) (Nat.le_refl _), blk_below H10.out.2.2.2.1 ((Below.refl W10.heap.size W10).alloc (Nat.le_refl _) (.cells #[.slice sa sn sc, .slice ra n2 rc, .int .i64 lf, .bool false] 25)) (blk_lt H10.out.2.2.2.1), H10.out.2.2.2.2.below ((Below.refl W10.heap.size W10).alloc (Nat.le_refl _) (.cells #[.slice sa sn sc, .slice ra n2 rc, .int .i64 lf, .bool false] 25)) (Nat.le_refl _), blk_new W10 (.cells #[.slice sa sn sc, .slice ra n2 rc, .int .i64 lf, .bool false] 25)⟩)
          have hzW11 : W10.heap.size < (W10.alloc (.cells #[.slice sa sn sc, .slice ra n2 rc, .int .i64 lf, .bool false] 25)).heap.size := by simp
          generalize W10.alloc (.cells #[.slice sa sn sc, .slice ra n2 rc, .int .i64 lf, .bool false] 25) = W11 at *
          by_cases hd : lf = -1 ∨ (n2 : Int) ≤ lf
          · obtain ⟨G, hG⟩ : ∃ G : Int, G = if lf = -1 then -1 else lf - n2 := ⟨_, rfl⟩
            have HG := Lib.hid hG
            have HD := Lib.hid hd
            clear hG hd
            obtain ⟨U, hU⟩ : ∃ U, U = perfK S P2 n2 := ⟨_, rfl⟩
            have HU := Lib.hid hU
            have HVz := Lib.hid (show Valid ⟨U, [], G, false⟩ by rw [hU]; have h1 := HV2.out.1.2.2.2.1; have h2 := HV2.out.1.2.2.2.2; dsimp only at h1 h2; exact valid_done HV2.out (by rw [HG.out]; split <;> have := HD.out <;> omega) (by rw [HG.out]; split <;> omega) n2 (by omega))
            clear hU
            have xy0 := blk_cell H11.out.2.2.2.2.2 0
            have xy1 := blk_cell H11.out.2.2.2.2.2 1
            have xy2 := blk_cell H11.out.2.2.2.2.2 2
            have xy3 := blk_cell H11.out.2.2.2.2.2 3
            go_wp2_with fail
            clear xy0 xy1 xy2 xy3
            refine (sync_any S P2 lf false sa sb so sn sc ra rb 0 n2 rc _ (HA.out.1.below H11.out.1 (Nat.le_refl _)) H11.out.2.2.2.2.1 (by omega) (by omega) hrc hsz).mono ?_
            rintro e W12 ⟨hp, hb⟩
            obtain ⟨b3, cap3, hcap3, -, hS3, he⟩ := hp.done (runB_t HV2.out rfl) HD.out
            rw [← HG.out] at he
            rw [← HU.out] at hS3
            subst he
            have H12 := Lib.hid (show _ ∧ _ ∧ _ ∧ _ ∧ _ ∧ _ ∧ _ from ⟨below_after H11.out.1 hb H11.out.1.size, blk_below H11.out.2.1 hb (blk_lt H11.out.2.1), H11.out.2.2.1.below hb (Nat.le_refl _), blk_below H11.out.2.2.2.1 hb (blk_lt H11.out.2.2.2.1), H11.out.2.2.2.2.1.below hb (Nat.le_refl _), blk_below H11.out.2.2.2.2.2 hb (blk_lt H11.out.2.2.2.2.2), hS3⟩)
            clear hb
            go_upto_region 17 with fail
            have H13 := Lib.hid (show _ ∧ _ ∧ _ ∧ _ ∧ _ ∧ _ ∧ _ ∧ _ from ⟨below_after H12.out.1 ((Below.refl W12.heap.size W12).alloc (Nat.le_refl _) (.cells #[.slice (some ⟨b3, 0, none⟩) sn cap3, .slice none 0 0, .int .i64 G, .bool false] 25)) H12.out.1.size, blk_below H12.out.2.1 ((Below.refl W12.heap.size W12).alloc (Nat.le_refl _) (.cells #[.slice (some ⟨b3, 0, none⟩) sn cap3, .slice none 0 0, .int .i64 G, .bool false] 25)) (blk_lt H12.out.2.1), H12.out.2.2.1.below ((Below.refl W12.heap.size W12).alloc (Nat.le_refl _) (.cells #[.slice (some ⟨b3, 0, none⟩) sn cap3, .slice none 0 0, .int .i64 G, .bool false] 25)) (Nat.le_refl _), blk_below H12.out.2.2.2.1 ((Below.refl W12.heap.size W12).alloc (Nat.le_refl _) (.cells #[.slice (some ⟨b3, 0, none⟩) sn cap3, .slice none 0 0, .int .i64 G, .bool false] 25)) (blk_lt H12.out.2.2.2.1), H12.out.2.2.2.2.1.below ((Below.refl W12.heap.size W12).alloc (Nat.le_refl _) (.cells #[.slice (some ⟨b3, 0, none⟩) sn cap3, .slice none 0 0, .int .i64 G, .bool false] 25)) (Nat.le_refl _), blk_below H12.out.2.2.2.2.2.1 ((Below.refl W12.heap.size W12).alloc (Nat.le_refl _) (.cells #[.slice (some ⟨b3, 0, none⟩) sn cap3, .slice none 0 0, .int .i64 G, .bool false] 25)) (blk_lt H12.out.2.2.2.2.2.1), H12.out.2.2.2.2.2.2.below ((Below.refl W12.heap.size W12).alloc (Nat.le_refl _) (.cells #[.slice (some ⟨b3, 0, none⟩) sn cap3, .slice none 0 0, .int .i64 G, .bool false] 25)) (Nat.le_refl _), blk_new W12 (.cells #[.slice (some ⟨b3, 0, none⟩) sn cap3, .slice none 0 0, .int .i64 G, .bool false] 25)⟩)
            have hzW13 : W12.heap.size < (W12.alloc (.cells #[.slice (some ⟨b3, 0, none⟩) sn cap3, .slice none 0 0, .int .i64 G, .bool false] 25)).heap.size := by simp
            generalize W12.alloc (.cells #[.slice (some ⟨b3, 0, none⟩) sn cap3, .slice none 0 0, .int .i64 G, .bool false] 25) = W13 at *
            have xz0 := blk_cell H13.out.2.2.2.2.2.2.2 0
            have xz1 := blk_cell H13.out.2.2.2.2.2.2.2 1
            have xz2 := blk_cell H13.out.2.2.2.2.2.2.2 2
            have xz3 := blk_cell H13.out.2.2.2.2.2.2.2 3
            have xd0 := blk_cell H13.out.2.1 0
            have xd1 := blk_cell H13.out.2.1 1
            have xd2 := blk_cell H13.out.2.1 2
            have xd3 := blk_cell H13.out.2.1 3
            have xy0 := blk_cell H13.out.2.2.2.2.2.1 0
            have xy1 := blk_cell H13.out.2.2.2.2.2.1 1
            have xy2 := blk_cell H13.out.2.2.2.2.2.1 2
            have xy3 := blk_cell H13.out.2.2.2.2.2.1 3
            go_wp2_with fail
            clear xz0 xz1 xz2 xz3 xd0 xd1 xd2 xd3 xy0 xy1 xy2 xy3
            go_loopw [23] (fun v wr => ∃ k : Nat, k ≤ sn ∧ v = .int .i64 k ∧ Hid (Below W13.heap.size W13 wr)) (fun v _ => sn - (intOf v).toNat)
            case atStart => exact ⟨0, Nat.zero_le _, rfl, Lib.hid (Below.refl _ _)⟩
            case round =>
              obtain ⟨k, hk, rfl, HR⟩ := hrel
              have H14 := Lib.hid (show _ ∧ _ ∧ _ ∧ _ ∧ _ ∧ _ ∧ _ ∧ _ from ⟨below_after H13.out.1 HR.out H13.out.1.size, blk_below H13.out.2.1 HR.out (blk_lt H13.out.2.1), H13.out.2.2.1.below HR.out (Nat.le_refl _), blk_below H13.out.2.2.2.1 HR.out (blk_lt H13.out.2.2.2.1), H13.out.2.2.2.2.1.below HR.out (Nat.le_refl _), blk_below H13.out.2.2.2.2.2.1 HR.out (blk_lt H13.out.2.2.2.2.2.1), H13.out.2.2.2.2.2.2.1.below HR.out (Nat.le_refl _), blk_below H13.out.2.2.2.2.2.2.2 HR.out (blk_lt H13.out.2.2.2.2.2.2.2)⟩)
              have d0 := blk_cell H14.out.2.1 0
              by_cases hks : k < sn
              · have j1 : (k : Int) < (sn : Int) := by omega
                have u1 : IntKind.i64.wrap ((k : Int) + 1) = ((k + 1 : Nat) : Int) := (wrap_id (by omega)).trans (by omega)
                obtain ⟨Q, hQ⟩ : ∃ Q, rdK P2 (k : Int) (nS S k) n2 = Q := ⟨_, rfl⟩
                have HQ := Lib.hid hQ
                have hQl : Q.2.2.length = 128 := by rw [← hQ]; exact rd_len (HV2.out.2.1 k (by dsimp only; omega)) n2 (fun j hj => (HV2.out.2.2 j (by dsimp only; omega)).2.2)
                have HK := Lib.hid hks
                clear hQ hks hk
                clear d0
                have xd0 := blk_cell H14.out.2.1 0
                have xd1 := blk_cell H14.out.2.1 1
                have xd2 := blk_cell H14.out.2.1 2
                have xd3 := blk_cell H14.out.2.1 3
                have xy0 := blk_cell H14.out.2.2.2.2.2.1 0
                have xy1 := blk_cell H14.out.2.2.2.2.2.1 1
                have xy2 := blk_cell H14.out.2.2.2.2.2.1 2
                have xy3 := blk_cell H14.out.2.2.2.2.2.1 3
                go_wp2_with fail
                clear xd0 xd1 xd2 xd3 xy0 xy1 xy2 xy3
                refine (read_ok S P2 lf sa sb so sn sc ra rb 0 n2 rc (k : Int) _ (HA.out.1.below H14.out.1 (Nat.le_refl _)) H14.out.2.2.2.2.1 (by omega) (by omega) (runB_t HV2.out rfl) (by omega) j1 Q HQ.out 128 hQl).mono ?_
                rintro e W15 ⟨hp, hb⟩
                subst hp
                have hbr1 := hb
                have H15 := Lib.hid (show _ ∧ _ ∧ _ ∧ _ ∧ _ ∧ _ ∧ _ ∧ _ from ⟨below_after H14.out.1 hb H14.out.1.size, blk_below H14.out.2.1 hb (blk_lt H14.out.2.1), H14.out.2.2.1.below hb (Nat.le_refl _), blk_below H14.out.2.2.2.1 hb (blk_lt H14.out.2.2.2.1), H14.out.2.2.2.2.1.below hb (Nat.le_refl _), blk_below H14.out.2.2.2.2.2.1 hb (blk_lt H14.out.2.2.2.2.2.1), H14.out.2.2.2.2.2.2.1.below hb (Nat.le_refl _), blk_below H14.out.2.2.2.2.2.2.2 hb (blk_lt H14.out.2.2.2.2.2.2.2)⟩)
                clear hb
                have hZ : nS U k = Q := by rw [HU.out, perf_rd (S := S) (P := P2) (k := k) (by have := HK.out; omega) n2 (fun j hj => ⟨(HV2.out.2.2 j (by dsimp only; omega)).1, (HV2.out.2.2 j (by dsimp only; omega)).2.1⟩)]; exact HQ.out
                have HZ := Lib.hid hZ
                clear hZ
                have xz0 := blk_cell H15.out.2.2.2.2.2.2.2 0
                have xz1 := blk_cell H15.out.2.2.2.2.2.2.2 1
                have xz2 := blk_cell H15.out.2.2.2.2.2.2.2 2
                have xz3 := blk_cell H15.out.2.2.2.2.2.2.2 3
                go_wp2_with fail
                clear xz0 xz1 xz2 xz3
                refine (read_ok U [] G (some ⟨b3, 0, none⟩) b3 0 sn cap3 none 0 0 0 0 (k : Int) _ H15.out.2.2.2.2.2.2.1 (pens_nil _ _) (by omega) (by omega) (runB_t HVz.out rfl) (by omega) j1 Q HZ.out 128 hQl).mono ?_
                rintro e W16 ⟨hp, hb⟩
                subst hp
                have hbr2 := hb
                have H16 := Lib.hid (show _ ∧ _ ∧ _ ∧ _ ∧ _ ∧ _ ∧ _ ∧ _ from ⟨below_after H15.out.1 hb H15.out.1.size, blk_below H15.out.2.1 hb (blk_lt H15.out.2.1), H15.out.2.2.1.below hb (Nat.le_refl _), blk_below H15.out.2.2.2.1 hb (blk_lt H15.out.2.2.2.1), H15.out.2.2.2.2.1.below hb (Nat.le_refl _), blk_below H15.out.2.2.2.2.2.1 hb (blk_lt H15.out.2.2.2.2.2.1), H15.out.2.2.2.2.2.2.1.below hb (Nat.le_refl _), blk_below H15.out.2.2.2.2.2.2.2 hb (blk_lt H15.out.2.2.2.2.2.2.2)⟩)
                clear hb
                have vq := slr_conv (w := W16) (s := Q) (by have := H16.out.2.2.2.2.2.2.1.row k HK.out; rwa [HZ.out] at this)
                rw [hQl] at vq
                have HRr := Lib.hid (below_after (below_after HR.out hbr1 HR.out.size) hbr2 (by have := HR.out.size; have := hbr1.size; omega))
                clear hbr1 hbr2
                go_wp2
                go_roundw
                case rel => exact ⟨k + 1, HK.out, by go_num, HRr⟩
                case measure => have := HK.out; simp [intOf]; omega
              · obtain rfl : k = sn := by omega
                have j1 : ¬ (k : Int) < (k : Int) := by omega
                have z1 := blk_cell H14.out.2.2.2.2.2.2.2 1
                have xz0 := blk_cell H14.out.2.2.2.2.2.2.2 0
                have xz1 := blk_cell H14.out.2.2.2.2.2.2.2 1
                have xz2 := blk_cell H14.out.2.2.2.2.2.2.2 2
                have xz3 := blk_cell H14.out.2.2.2.2.2.2.2 3
                clear z1
                go_wp2_with fail
                clear xz0 xz1 xz2 xz3 d0
                refine (check_any U [] G false (some ⟨b3, 0, none⟩) b3 0 k cap3 none 0 0 0 0 _ H14.out.2.2.2.2.2.2.1 (pens_nil _ _) (by omega) (by omega)).mono ?_
                rintro e W15 ⟨hp, hb⟩
                subst hp
                rw [chkE_ok HVz.out]
                have H15 := Lib.hid (show _ ∧ _ ∧ _ ∧ _ ∧ _ ∧ _ ∧ _ ∧ _ from ⟨below_after H14.out.1 hb H14.out.1.size, blk_below H14.out.2.1 hb (blk_lt H14.out.2.1), H14.out.2.2.1.below hb (Nat.le_refl _), blk_below H14.out.2.2.2.1 hb (blk_lt H14.out.2.2.2.1), H14.out.2.2.2.2.1.below hb (Nat.le_refl _), blk_below H14.out.2.2.2.2.2.1 hb (blk_lt H14.out.2.2.2.2.2.1), H14.out.2.2.2.2.2.2.1.below hb (Nat.le_refl _), blk_below H14.out.2.2.2.2.2.2.2 hb (blk_lt H14.out.2.2.2.2.2.2.2)⟩)
                clear hb
                go_wp2
                go_ret
                exact ⟨rfl, H15.out.1⟩
          · have hd0 : 0 ≤ lf := by have := HV2.out.1.2.2.2.1; dsimp only at this; omega
            have hd1 : lf < (n2 : Int) := by omega
            clear hd
            have xy0 := blk_cell H11.out.2.2.2.2.2 0
            have xy1 := blk_cell H11.out.2.2.2.2.2 1
            have xy2 := blk_cell H11.out.2.2.2.2.2 2
            have xy3 := blk_cell H11.out.2.2.2.2.2 3
            go_wp2_with fail
            clear xy0 xy1 xy2 xy3
            refine (sync_any S P2 lf false sa sb so sn sc ra rb 0 n2 rc _ (HA.out.1.below H11.out.1 (Nat.le_refl _)) H11.out.2.2.2.2.1 (by omega) (by omega) hrc hsz).mono ?_
            rintro e W12 ⟨hp, hb⟩
            obtain ⟨b3, cap3, Y3, -, -, -, -, -, rfl⟩ := hp.torn (runB_t HV2.out rfl) hd0 hd1
            have H12 := Lib.hid (show _ ∧ _ ∧ _ ∧ _ ∧ _ ∧ _ from ⟨below_after H11.out.1 hb H11.out.1.size, blk_below H11.out.2.1 hb (blk_lt H11.out.2.1), H11.out.2.2.1.below hb (Nat.le_refl _), blk_below H11.out.2.2.2.1 hb (blk_lt H11.out.2.2.2.1), H11.out.2.2.2.2.1.below hb (Nat.le_refl _), blk_below H11.out.2.2.2.2.2 hb (blk_lt H11.out.2.2.2.2.2)⟩)
            clear hb
            go_upto_region 17 with fail
            have H13 := Lib.hid (show _ ∧ _ ∧ _ ∧ _ ∧ _ ∧ _ ∧ _ from ⟨below_after H12.out.1 ((Below.refl W12.heap.size W12).alloc (Nat.le_refl _) (.cells #[.slice (some ⟨b3, 0, none⟩) sn cap3, .slice none 0 0, .int .i64 0, .bool true] 25)) H12.out.1.size, blk_below H12.out.2.1 ((Below.refl W12.heap.size W12).alloc (Nat.le_refl _) (.cells #[.slice (some ⟨b3, 0, none⟩) sn cap3, .slice none 0 0, .int .i64 0, .bool true] 25)) (blk_lt H12.out.2.1), H12.out.2.2.1.below ((Below.refl W12.heap.size W12).alloc (Nat.le_refl _) (.cells #[.slice (some ⟨b3, 0, none⟩) sn cap3, .slice none 0 0, .int .i64 0, .bool true] 25)) (Nat.le_refl _), blk_below H12.out.2.2.2.1 ((Below.refl W12.heap.size W12).alloc (Nat.le_refl _) (.cells #[.slice (some ⟨b3, 0, none⟩) sn cap3, .slice none 0 0, .int .i64 0, .bool true] 25)) (blk_lt H12.out.2.2.2.1), H12.out.2.2.2.2.1.below ((Below.refl W12.heap.size W12).alloc (Nat.le_refl _) (.cells #[.slice (some ⟨b3, 0, none⟩) sn cap3, .slice none 0 0, .int .i64 0, .bool true] 25)) (Nat.le_refl _), blk_below H12.out.2.2.2.2.2 ((Below.refl W12.heap.size W12).alloc (Nat.le_refl _) (.cells #[.slice (some ⟨b3, 0, none⟩) sn cap3, .slice none 0 0, .int .i64 0, .bool true] 25)) (blk_lt H12.out.2.2.2.2.2), blk_new W12 (.cells #[.slice (some ⟨b3, 0, none⟩) sn cap3, .slice none 0 0, .int .i64 0, .bool true] 25)⟩)
            have hzW13 : W12.heap.size < (W12.alloc (.cells #[.slice (some ⟨b3, 0, none⟩) sn cap3, .slice none 0 0, .int .i64 0, .bool true] 25)).heap.size := by simp
            generalize W12.alloc (.cells #[.slice (some ⟨b3, 0, none⟩) sn cap3, .slice none 0 0, .int .i64 0, .bool true] 25) = W13 at *
            have xz0 := blk_cell H13.out.2.2.2.2.2.2 0
            have xz1 := blk_cell H13.out.2.2.2.2.2.2 1
            have xz2 := blk_cell H13.out.2.2.2.2.2.2 2
            have xz3 := blk_cell H13.out.2.2.2.2.2.2 3
            go_wp2
            go_ret
            exact ⟨rfl, H13.out.1⟩
        · have H4 := Lib.hid (show n1 = 4096 by omega)
          clear h4
          have xx0 := blk_cell H9.out.2.2.2 0
          have xx1 := blk_cell H9.out.2.2.2 1
          have xx2 := blk_cell H9.out.2.2.2 2
          have xx3 := blk_cell H9.out.2.2.2 3
          go_wp2_with fail
          clear xx0 xx1 xx2 xx3
          refine (write_any S P1 lf false sa sb so sn sc qa qb 0 n1 qc (q : Int) C _ (HA.out.1.below H9.out.1 (Nat.le_refl _)) H9.out.2.2.1 (HA.out.2.2.2.below H9.out.1 (Nat.le_refl _)) (by omega) (by omega) hqc hlC).mono ?_
          rintro e W10 ⟨hp, hb⟩
          replace hp := hp.full ⟨runB_t HV1.out rfl, HE.out.2.1, HE.out.2.2⟩ hlC' H4.out
          subst hp
          have H10 := Lib.hid (show _ ∧ _ ∧ _ ∧ _ from ⟨below_after H9.out.1 hb H9.out.1.size, blk_below H9.out.2.1 hb (blk_lt H9.out.2.1), H9.out.2.2.1.below hb (Nat.le_refl _), blk_below H9.out.2.2.2 hb (blk_lt H9.out.2.2.2)⟩)
          clear hb
          go_upto_region 14 with fail
          have H11 := Lib.hid (show _ ∧ _ ∧ _ ∧ _ from ⟨below_after H10.out.1 ((Below.refl W10.heap.size W10).alloc (Nat.le_refl _) (.cells #[.slice none 0 0, .slice none 0 0, .int .i64 0, .bool false] 25)) H10.out.1.size, blk_below H10.out.2.1 ((Below.refl W10.heap.size W10).alloc (Nat.le_refl _) (.cells #[.slice none 0 0, .slice none 0 0, .int .i64 0, .bool false] 25)) (blk_lt H10.out.2.1), H10.out.2.2.1.below ((Below.refl W10.heap.size W10).alloc (Nat.le_refl _) (.cells #[.slice none 0 0, .slice none 0 0, .int .i64 0, .bool false] 25)) (Nat.le_refl _), blk_below H10.out.2.2.2 ((Below.refl W10.heap.size W10).alloc (Nat.le_refl _) (.cells #[.slice none 0 0, .slice none 0 0, .int .i64 0, .bool false] 25)) (blk_lt H10.out.2.2.2)⟩)
          have hzW11 : W10.heap.size < (W10.alloc (.cells #[.slice none 0 0, .slice none 0 0, .int .i64 0, .bool false] 25)).heap.size := by simp
          generalize W10.alloc (.cells #[.slice none 0 0, .slice none 0 0, .int .i64 0, .bool false] 25) = W11 at *
          go_wp2
          go_ret
          exact ⟨rfl, H11.out.1⟩
      · have hAV := HA1.out.2 hpq
        have e1 : ((p : Int) != (q : Int)) = true := by simp; omega
        clear hE
        subst hAV
        go_quiet (fail)
        go_upto_region 13 with fail
        clear e1 hpq vY vX vV HvY HvX HvV i1 i2 i3 hY1c
        have hbq := below_drewN (n := nq) (Below.refl W8.heap.size W8)
        have H9 := Lib.hid (show _ ∧ _ ∧ _ ∧ _ from ⟨below_after H8.out.1 hbq H8.out.1.size, blk_below H8.out.2.1 hbq (blk_lt H8.out.2.1), H8.out.2.2.1.below hbq (Nat.le_refl _), blk_below H8.out.2.2.2.2 hbq (blk_lt H8.out.2.2.2.2)⟩)
        clear hbq
        generalize W8.drewN nq = W9 at *
        by_cases h4 : n1 < 4096
        · obtain ⟨n2, hn2⟩ : ∃ n2, n2 = n1 + 1 := ⟨_, rfl⟩
          have HN2 := Lib.hid hn2
          have hn2' : n2 ≤ 4096 := by omega
          clear hn2
          have xx0 := blk_cell H9.out.2.2.2 0
          have xx1 := blk_cell H9.out.2.2.2 1
          have xx2 := blk_cell H9.out.2.2.2 2
          have xx3 := blk_cell H9.out.2.2.2 3
          go_wp2_with fail
          clear xx0 xx1 xx2 xx3
          refine (write_ok S P1 lf sa sb so sn sc qa qb 0 n1 qc (q : Int) C n2 _ (HA.out.1.below H9.out.1 (Nat.le_refl _)) H9.out.2.2.1 (HA.out.2.2.2.below H9.out.1 (Nat.le_refl _)) (by omega) hqc (runB_t HV1.out rfl) HE.out.2.1 HE.out.2.2 hlC' h4 HN2.out).mono ?_
          rintro e W10 ⟨hp, hb⟩
          obtain ⟨ra, rb, rc, Y2, hY2, hrc, -, hY2g, hP2, rfl⟩ := hp
          have H10 := Lib.hid (show _ ∧ _ ∧ _ ∧ _ ∧ _ from ⟨below_after H9.out.1 hb H9.out.1.size, blk_below H9.out.2.1 hb (blk_lt H9.out.2.1), H9.out.2.2.1.below hb (Nat.le_refl _), blk_below H9.out.2.2.2 hb (blk_lt H9.out.2.2.2), hP2⟩)
          clear hb
          have hY2l : Y2.2.2.length = 128 := by rw [hY2]; exact padL_len hlC'
          obtain ⟨P2, hP2e⟩ : ∃ P2, P2 = P1 ++ [((q : Int), Y2)] := ⟨_, rfl⟩
          have hV2 : Valid ⟨S, P2, lf, false⟩ := by rw [hP2e]; exact valid_snoc HV1.out ⟨by show (0 : Int) ≤ q; omega, by show (q : Int) < (S.length : Int); omega, hY2l⟩ (by omega)
          have HV2 := Lib.hid hV2
          have hP2l : P2.length = n2 := by rw [hP2e, List.length_append, HN2.out]; simp; omega
          clear hV2 hY2g hY2
          rw [← hP2e] at hP2 H10
          clear hP2 hP2e
          go_upto_region 14 with fail
          have H11 := Lib.hid (show _ ∧ _ ∧ _ ∧ _ ∧ _ ∧ _ from ⟨below_after H10.out.1 ((Below.refl W10.heap.size W10).alloc (Nat.le_refl _) (.cells #[.slice sa sn sc, .slice ra n2 rc, .int .i64 lf, .bool false] 25)) H10.out.1.size, blk_below H10.out.2.1 ((Below.refl W10.heap.size W10).alloc (Nat.le_refl _) (.cells #[.slice sa sn sc, .slice ra n2 rc, .int .i64 lf, .bool false] 25)) (blk_lt H10.out.2.1), H10.out.2.2.1.below ((Below.refl W10.heap.size W10).alloc (Nat.le_refl _) (.cells #[.slice sa sn sc, .slice ra n2 rc, .int .i64 lf, .bool false] 25)) (Nat.le_refl _), blk_below H10.out.2.2.2.1 ((Below.refl W10.heap.size W10).alloc (Nat.le_refl _) (.cells #[.slice sa sn sc, .slice ra n2 rc, .int .i64 lf, .bool false] 25)) (blk_lt H10.out.2.2.2.1), H10.out.2.2.2.2.below ((Below.refl W10.heap.size W10).alloc (Nat.le_refl _) (.cells #[.slice sa sn sc, .slice ra n2 rc, .int .i64 lf, .bool false] 25)) (Nat.le_refl _), blk_new W10 (.cells #[.slice sa sn sc, .slice ra n2 rc, .int .i64 lf, .bool false] 25)⟩)
          have hzW11 : W10.heap.size < (W10.alloc (.cells #[.slice sa sn sc, .slice ra n2 rc, .int .i64 lf, .bool false] 25)).heap.size := by simp
          generalize W10.alloc (.cells #[.slice sa sn sc, .slice ra n2 rc, .int .i64 lf, .bool false] 25) = W11 at *
          by_cases hd : lf = -1 ∨ (n2 : Int) ≤ lf
          · obtain ⟨G, hG⟩ : ∃ G : Int, G = if lf = -1 then -1 else lf - n2 := ⟨_, rfl⟩
            have HG := Lib.hid hG
            have HD := Lib.hid hd
            clear hG hd
            obtain ⟨U, hU⟩ : ∃ U, U = perfK S P2 n2 := ⟨_, rfl⟩
            have HU := Lib.hid hU
            have HVz := Lib.hid (show Valid ⟨U, [], G, false⟩ by rw [hU]; have h1 := HV2.out.1.2.2.2.1; have h2 := HV2.out.1.2.2.2.2; dsimp only at h1 h2; exact valid_done HV2.out (by rw [HG.out]; split <;> have := HD.out <;> omega) (by rw [HG.out]; split <;> omega) n2 (by omega))
            clear hU
            have xy0 := blk_cell H11.out.2.2.2.2.2 0
            have xy1 := blk_cell H11.out.2.2.2.2.2 1
            have xy2 := blk_cell H11.out.2.2.2.2.2 2
            have xy3 := blk_cell H11.out.2.2.2.2.2 3
            go_wp2_with fail
            clear xy0 xy1 xy2 xy3
            refine (sync_any S P2 lf false sa sb so sn sc ra rb 0 n2 rc _ (HA.out.1.below H11.out.1 (Nat.le_refl _)) H11.out.2.2.2.2.1 (by omega) (by omega) hrc hsz).mono ?_
            rintro e W12 ⟨hp, hb⟩
            obtain ⟨b3, cap3, hcap3, -, hS3, he⟩ := hp.done (runB_t HV2.out rfl) HD.out
            rw [← HG.out] at he
            rw [← HU.out] at hS3
            subst he
            have H12 := Lib.hid (show _ ∧ _ ∧ _ ∧ _ ∧ _ ∧ _ ∧ _ from ⟨below_after H11.out.1 hb H11.out.1.size, blk_below H11.out.2.1 hb (blk_lt H11.out.2.1), H11.out.2.2.1.below hb (Nat.le_refl _), blk_below H11.out.2.2.2.1 hb (blk_lt H11.out.2.2.2.1), H11.out.2.2.2.2.1.below hb (Nat.le_refl _), blk_below H11.out.2.2.2.2.2 hb (blk_lt H11.out.2.2.2.2.2), hS3⟩)
            clear hb
            go_upto_region 17 with fail
            have H13 := Lib.hid (show _ ∧ _ ∧ _ ∧ _ ∧ _ ∧ _ ∧ _ ∧ _ from ⟨below_after H12.out.1 ((Below.refl W12.heap.size W12).alloc (Nat.le_refl _) (.cells #[.slice (some ⟨b3, 0, none⟩) sn cap3, .slice none 0 0, .int .i64 G, .bool false] 25)) H12.out.1.size, blk_below H12.out.2.1 ((Below.refl W12.heap.size W12).alloc (Nat.le_refl _) (.cells #[.slice (some ⟨b3, 0, none⟩) sn cap3, .slice none 0 0, .int .i64 G, .bool false] 25)) (blk_lt H12.out.2.1), H12.out.2.2.1.below ((Below.refl W12.heap.size W12).alloc (Nat.le_refl _) (.cells #[.slice (some ⟨b3, 0, none⟩) sn cap3, .slice none 0 0, .int .i64 G, .bool false] 25)) (Nat.le_refl _), blk_below H12.out.2.2.2.1 ((Below.refl W12.heap.size W12).alloc (Nat.le_refl _) (.cells #[.slice (some ⟨b3, 0, none⟩) sn cap3, .slice none 0 0, .int .i64 G, .bool false] 25)) (blk_lt H12.out.2.2.2.1), H12.out.2.2.2.2.1.below ((Below.refl W12.heap.size W12).alloc (Nat.le_refl _) (.cells #[.slice (some ⟨b3, 0, none⟩) sn cap3, .slice none 0 0, .int .i64 G, .bool false] 25)) (Nat.le_refl _), blk_below H12.out.2.2.2.2.2.1 ((Below.refl W12.heap.size W12).alloc (Nat.le_refl _) (.cells #[.slice (some ⟨b3, 0, none⟩) sn cap3, .slice none 0 0, .int .i64 G, .bool false] 25)) (blk_lt H12.out.2.2.2.2.2.1), H12.out.2.2.2.2.2.2.below ((Below.refl W12.heap.size W12).alloc (Nat.le_refl _) (.cells #[.slice (some ⟨b3, 0, none⟩) sn cap3, .slice none 0 0, .int .i64 G, .bool false] 25)) (Nat.le_refl _), blk_new W12 (.cells #[.slice (some ⟨b3, 0, none⟩) sn cap3, .slice none 0 0, .int .i64 G, .bool false] 25)⟩)
            have hzW13 : W12.heap.size < (W12.alloc (.cells #[.slice (some ⟨b3, 0, none⟩) sn cap3, .slice none 0 0, .int .i64 G, .bool false] 25)).heap.size := by simp
            generalize W12.alloc (.cells #[.slice (some ⟨b3, 0, none⟩) sn cap3, .slice none 0 0, .int .i64 G, .bool false] 25) = W13 at *
            have xz0 := blk_cell H13.out.2.2.2.2.2.2.2 0
            have xz1 := blk_cell H13.out.2.2.2.2.2.2.2 1
            have xz2 := blk_cell H13.out.2.2.2.2.2.2.2 2
            have xz3 := blk_cell H13.out.2.2.2.2.2.2.2 3
            have xd0 := blk_cell H13.out.2.1 0
            have xd1 := blk_cell H13.out.2.1 1
            have xd2 := blk_cell H13.out.2.1 2
            have xd3 := blk_cell H13.out.2.1 3
            have xy0 := blk_cell H13.out.2.2.2.2.2.1 0
            have xy1 := blk_cell H13.out.2.2.2.2.2.1 1
            have xy2 := blk_cell H13.out.2.2.2.2.2.1 2
            have xy3 := blk_cell H13.out.2.2.2.2.2.1 3
            go_wp2_with fail
            clear xz0 xz1 xz2 xz3 xd0 xd1 xd2 xd3 xy0 xy1 xy2 xy3
            go_loopw [23] (fun v wr => ∃ k : Nat, k ≤ sn ∧ v = .int .i64 k ∧ Hid (Below W13.heap.size W13 wr)) (fun v _ => sn - (intOf v).toNat)
            case atStart => exact ⟨0, Nat.zero_le _, rfl, Lib.hid (Below.refl _ _)⟩
            case round =>
              obtain ⟨k, hk, rfl, HR⟩ := hrel
              have H14 := Lib.hid (show _ ∧ _ ∧ _ ∧ _ ∧ _ ∧ _ ∧ _ ∧ _ from ⟨below_after H13.out.1 HR.out H13.out.1.size, blk_below H13.out.2.1 HR.out (blk_lt H13.out.2.1), H13.out.2.2.1.below HR.out (Nat.le_refl _), blk_below H13.out.2.2.2.1 HR.out (blk_lt H13.out.2.2.2.1), H13.out.2.2.2.2.1.below HR.out (Nat.le_refl _), blk_below H13.out.2.2.2.2.2.1 HR.out (blk_lt H13.out.2.2.2.2.2.1), H13.out.2.2.2.2.2.2.1.below HR.out (Nat.le_refl _), blk_below H13.out.2.2.2.2.2.2.2 HR.out (blk_lt H13.out.2.2.2.2.2.2.2)⟩)
              have d0 := blk_cell H14.out.2.1 0
              by_cases hks : k < sn
              · have j1 : (k : Int) < (sn : Int) := by omega
                have u1 : IntKind.i64.wrap ((k : Int) + 1) = ((k + 1 : Nat) : Int) := (wrap_id (by omega)).trans (by omega)
                obtain ⟨Q, hQ⟩ : ∃ Q, rdK P2 (k : Int) (nS S k) n2 = Q := ⟨_, rfl⟩
                have HQ := Lib.hid hQ
                have hQl : Q.2.2.length = 128 := by rw [← hQ]; exact rd_len (HV2.out.2.1 k (by dsimp only; omega)) n2 (fun j hj => (HV2.out.2.2 j (by dsimp only; omega)).2.2)
                have HK := Lib.hid hks
                clear hQ hks hk
                clear d0
                have xd0 := blk_cell H14.out.2.1 0
                have xd1 := blk_cell H14.out.2.1 1
                have xd2 := blk_cell H14.out.2.1 2
                have xd3 := blk_cell H14.out.2.1 3
                have xy0 := blk_cell H14.out.2.2.2.2.2.1 0
                have xy1 := blk_cell H14.out.2.2.2.2.2.1 1
                have xy2 := blk_cell H14.out.2.2.2.2.2.1 2
                have xy3 := blk_cell H14.out.2.2.2.2.2.1 3
                go_wp2_with fail
                clear xd0 xd1 xd2 xd3 xy0 xy1 xy2 xy3
                refine (read_ok S P2 lf sa sb so sn sc ra rb 0 n2 rc (k : Int) _ (HA.out.1.below H14.out.1 (Nat.le_refl _)) H14.out.2.2.2.2.1 (by omega) (by omega) (runB_t HV2.out rfl) (by omega) j1 Q HQ.out 128 hQl).mono ?_
                rintro e W15 ⟨hp, hb⟩
                subst hp
                have hbr1 := hb
                have H15 := Lib.hid (show _ ∧ _ ∧ _ ∧ _ ∧ _ ∧ _ ∧ _ ∧ _ from ⟨below_after H14.out.1 hb H14.out.1.size, blk_below H14.out.2.1 hb (blk_lt H14.out.2.1), H14.out.2.2.1.below hb (Nat.le_refl _), blk_below H14.out.2.2.2.1 hb (blk_lt H14.out.2.2.2.1), H14.out.2.2.2.2.1.below hb (Nat.le_refl _), blk_below H14.out.2.2.2.2.2.1 hb (blk_lt H14.out.2.2.2.2.2.1), H14.out.2.2.2.2.2.2.1.below hb (Nat.le_refl _), blk_below H14.out.2.2.2.2.2.2.2 hb (blk_lt H14.out.2.2.2.2.2.2.2)⟩)
                clear hb
                have hZ : nS U k = Q := by rw [HU.out, perf_rd (S := S) (P := P2) (k := k) (by have := HK.out; omega) n2 (fun j hj => ⟨(HV2.out.2.2 j (by dsimp only; omega)).1, (HV2.out.2.2 j (by dsimp only; omega)).2.1⟩)]; exact HQ.out
                have HZ := Lib.hid hZ
                clear hZ
                have xz0 := blk_cell H15.out.2.2.2.2.2.2.2 0
                have xz1 := blk_cell H15.out.2.2.2.2.2.2.2 1
                have xz2 := blk_cell H15.out.2.2.2.2.2.2.2 2
                have xz3 := blk_cell H15.out.2.2.2.2.2.2.2 3
                go_wp2_with fail
                clear xz0 xz1 xz2 xz3
                refine (read_ok U [] G (some ⟨b3, 0, none⟩) b3 0 sn cap3 none 0 0 0 0 (k : Int) _ H15.out.2.2.2.2.2.2.1 (pens_nil _ _) (by omega) (by omega) (runB_t HVz.out rfl) (by omega) j1 Q HZ.out 128 hQl).mono ?_
                rintro e W16 ⟨hp, hb⟩
                subst hp
                have hbr2 := hb
                have H16 := Lib.hid (show _ ∧ _ ∧ _ ∧ _ ∧ _ ∧ _ ∧ _ ∧ _ from ⟨below_after H15.out.1 hb H15.out.1.size, blk_below H15.out.2.1 hb (blk_lt H15.out.2.1), H15.out.2.2.1.below hb (Nat.le_refl _), blk_below H15.out.2.2.2.1 hb (blk_lt H15.out.2.2.2.1), H15.out.2.2.2.2.1.below hb (Nat.le_refl _), blk_below H15.out.2.2.2.2.2.1 hb (blk_lt H15.out.2.2.2.2.2.1), H15.out.2.2.2.2.2.2.1.below hb (Nat.le_refl _), blk_below H15.out.2.2.2.2.2.2.2 hb (blk_lt H15.out.2.2.2.2.2.2.2)⟩)
                clear hb
                have vq := slr_conv (w := W16) (s := Q) (by have := H16.out.2.2.2.2.2.2.1.row k HK.out; rwa [HZ.out] at this)
                rw [hQl] at vq
                have HRr := Lib.hid (below_after (below_after HR.out hbr1 HR.out.size) hbr2 (by have := HR.out.size; have := hbr1.size; omega))
                clear hbr1 hbr2
                go_wp2
                go_roundw
                case rel => exact ⟨k + 1, HK.out, by go_num, HRr⟩
                case measure => have := HK.out; simp [intOf]; omega
              · obtain rfl : k = sn := by omega
                have j1 : ¬ (k : Int) < (k : Int) := by omega
                have z1 := blk_cell H14.out.2.2.2.2.2.2.2 1
                have xz0 := blk_cell H14.out.2.2.2.2.2.2.2 0
                have xz1 := blk_cell H14.out.2.2.2.2.2.2.2 1
                have xz2 := blk_cell H14.out.2.2.2.2.2.2.2 2
                have xz3 := blk_cell H14.out.2.2.2.2.2.2.2 3
                clear z1
                go_wp2_with fail
                clear xz0 xz1 xz2 xz3 d0
                refine (check_any U [] G false (some ⟨b3, 0, none⟩) b3 0 k cap3 none 0 0 0 0 _ H14.out.2.2.2.2.2.2.1 (pens_nil _ _) (by omega) (by omega)).mono ?_
                rintro e W15 ⟨hp, hb⟩
                subst hp
                rw [chkE_ok HVz.out]
                have H15 := Lib.hid (show _ ∧ _ ∧ _ ∧ _ ∧ _ ∧ _ ∧ _ ∧ _ from ⟨below_after H14.out.1 hb H14.out.1.size, blk_below H14.out.2.1 hb (blk_lt H14.out.2.1), H14.out.2.2.1.below hb (Nat.le_refl _), blk_below H14.out.2.2.2.1 hb (blk_lt H14.out.2.2.2.1), H14.out.2.2.2.2.1.below hb (Nat.le_refl _), blk_below H14.out.2.2.2.2.2.1 hb (blk_lt H14.out.2.2.2.2.2.1), H14.out.2.2.2.2.2.2.1.below hb (Nat.le_refl _), blk_below H14.out.2.2.2.2.2.2.2 hb (blk_lt H14.out.2.2.2.2.2.2.2)⟩)
                clear hb
                go_wp2
                go_ret
                exact ⟨rfl, H15.out.1⟩
          · have hd0 : 0 ≤ lf := by have := HV2.out.1.2.2.2.1; dsimp only at this; omega
            have hd1 : lf < (n2 : Int) := by omega
            clear hd
            have xy0 := blk_cell H11.out.2.2.2.2.2 0
            have xy1 := blk_cell H11.out.2.2.2.2.2 1
            have xy2 := blk_cell H11.out.2.2.2.2.2 2
            have xy3 := blk_cell H11.out.2.2.2.2.2 3
            go_wp2_with fail
            clear xy0 xy1 xy2 xy3
            refine (sync_any S P2 lf false sa sb so sn sc ra rb 0 n2 rc _ (HA.out.1.below H11.out.1 (Nat.le_refl _)) H11.out.2.2.2.2.1 (by omega) (by omega) hrc hsz).mono ?_
            rintro e W12 ⟨hp, hb⟩
            obtain ⟨b3, cap3, Y3, -, -, -, -, -, rfl⟩ := hp.torn (runB_t HV2.out rfl) hd0 hd1
            have H12 := Lib.hid (show _ ∧ _ ∧ _ ∧ _ ∧ _ ∧ _ from ⟨below_after H11.out.1 hb H11.out.1.size, blk_below H11.out.2.1 hb (blk_lt H11.out.2.1), H11.out.2.2.1.below hb (Nat.le_refl _), blk_below H11.out.2.2.2.1 hb (blk_lt H11.out.2.2.2.1), H11.out.2.2.2.2.1.below hb (Nat.le_refl _), blk_below H11.out.2.2.2.2.2 hb (blk_lt H11.out.2.2.2.2.2)⟩)
            clear hb
            go_upto_region 17 with fail
            have H13 := Lib.hid (show _ ∧ _ ∧ _ ∧ _ ∧ _ ∧ _ ∧ _ from ⟨below_after H12.out.1 ((Below.refl W12.heap.size W12).alloc (Nat.le_refl _) (.cells #[.slice (some ⟨b3, 0, none⟩) sn cap3, .slice none 0 0, .int .i64 0, .bool true] 25)) H12.out.1.size, blk_below H12.out.2.1 ((Below.refl W12.heap.size W12).alloc (Nat.le_refl _) (.cells #[.slice (some ⟨b3, 0, none⟩) sn cap3, .slice none 0 0, .int .i64 0, .bool true] 25)) (blk_lt H12.out.2.1), H12.out.2.2.1.below ((Below.refl W12.heap.size W12).alloc (Nat.le_refl _) (.cells #[.slice (some ⟨b3, 0, none⟩) sn cap3, .slice none 0 0, .int .i64 0, .bool true] 25)) (Nat.le_refl _), blk_below H12.out.2.2.2.1 ((Below.refl W12.heap.size W12).alloc (Nat.le_refl _) (.cells #[.slice (some ⟨b3, 0, none⟩) sn cap3, .slice none 0 0, .int .i64 0, .bool true] 25)) (blk_lt H12.out.2.2.2.1), H12.out.2.2.2.2.1.below ((Below.refl W12.heap.size W12).alloc (Nat.le_refl _) (.cells #[.slice (some ⟨b3, 0, none⟩) sn cap3, .slice none 0 0, .int .i64 0, .bool true] 25)) (Nat.le_refl _), blk_below H12.out.2.2.2.2.2 ((Below.refl W12.heap.size W12).alloc (Nat.le_refl _) (.cells #[.slice (some ⟨b3, 0, none⟩) sn cap3, .slice none 0 0, .int .i64 0, .bool true] 25)) (blk_lt H12.out.2.2.2.2.2), blk_new W12 (.cells #[.slice (some ⟨b3, 0, none⟩) sn cap3, .slice none 0 0, .int .i64 0, .bool true] 25)⟩)
            have hzW13 : W12.heap.size < (W12.alloc (.cells #[.slice (some ⟨b3, 0, none⟩) sn cap3, .slice none 0 0, .int .i64 0, .bool true] 25)).heap.size := by simp
            generalize W12.alloc (.cells #[.slice (some ⟨b3, 0, none⟩) sn cap3, .slice none 0 0, .int .i64 0, .bool true] 25) = W13 at *
            have xz0 := blk_cell H13.out.2.2.2.2.2.2 0
            have xz1 := blk_cell H13.out.2.2.2.2.2.2 1
            have xz2 := blk_cell H13.out.2.2.2.2.2.2 2
            have xz3 := blk_cell H13.out.2.2.2.2.2.2 3
            go_wp2
            go_ret
            exact ⟨rfl, H13.out.1⟩
        · have H4 := Lib.hid (show n1 = 4096 by omega)
          clear h4
          have xx0 := blk_cell H9.out.2.2.2 0
          have xx1 := blk_cell H9.out.2.2.2 1
          have xx2 := blk_cell H9.out.2.2.2 2
          have xx3 := blk_cell H9.out.2.2.2 3
          go_wp2_with fail
          clear xx0 xx1 xx2 xx3
          refine (write_any S P1 lf false sa sb so sn sc qa qb 0 n1 qc (q : Int) C _ (HA.out.1.below H9.out.1 (Nat.le_refl _)) H9.out.2.2.1 (HA.out.2.2.2.below H9.out.1 (Nat.le_refl _)) (by omega) (by omega) hqc hlC).mono ?_
          rintro e W10 ⟨hp, hb⟩
          replace hp := hp.full ⟨runB_t HV1.out rfl, HE.out.2.1, HE.out.2.2⟩ hlC' H4.out
          subst hp
          have H10 := Lib.hid (show _ ∧ _ ∧ _ ∧ _ from ⟨below_after H9.out.1 hb H9.out.1.size, blk_below H9.out.2.1 hb (blk_lt H9.out.2.1), H9.out.2.2.1.below hb (Nat.le_refl _), blk_below H9.out.2.2.2 hb (blk_lt H9.out.2.2.2)⟩)
          clear hb
          go_upto_region 14 with fail
          have H11 := Lib.hid (show _ ∧ _ ∧ _ ∧ _ from ⟨below_after H10.out.1 ((Below.refl W10.heap.size W10).alloc (Nat.le_refl _) (.cells #[.slice none 0 0, .slice none 0 0, .int .i64 0, .bool false] 25)) H10.out.1.size, blk_below H10.out.2.1 ((Below.refl W10.heap.size W10).alloc (Nat.le_refl _) (.cells #[.slice none 0 0, .slice none 0 0, .int .i64 0, .bool false] 25)) (blk_lt H10.out.2.1), H10.out.2.2.1.below ((Below.refl W10.heap.size W10).alloc (Nat.le_refl _) (.cells #[.slice none 0 0, .slice none 0 0, .int .i64 0, .bool false] 25)) (Nat.le_refl _), blk_below H10.out.2.2.2 ((Below.refl W10.heap.size W10).alloc (Nat.le_refl _) (.cells #[.slice none 0 0, .slice none 0 0, .int .i64 0, .bool false] 25)) (blk_lt H10.out.2.2.2)⟩)
          have hzW11 : W10.heap.size < (W10.alloc (.cells #[.slice none 0 0, .slice none 0 0, .int .i64 0, .bool false] 25)).heap.size := by simp
          generalize W10.alloc (.cells #[.slice none 0 0, .slice none 0 0, .int .i64 0, .bool false] 25) = W11 at *
          go_wp2
          go_ret
          exact ⟨rfl, H11.out.1⟩
    · have HW' := Lib.hid hw
      clear hw
      have xd0 := blk_cell H4.out.2 0
      have xd1 := blk_cell H4.out.2 1
      have xd2 := blk_cell H4.out.2 2
      have xd3 := blk_cell H4.out.2 3
      go_wp2_with fail
      clear xd0 xd1 xd2 xd3
      refine (write_any S P lf false sa sb so sn sc pa pb po pn pc i X _ (HA.out.1.below H4.out.1 (Nat.le_refl _)) (HA.out.2.1.below H4.out.1 (Nat.le_refl _)) (HA.out.2.2.1.below H4.out.1 (Nat.le_refl _)) (by omega) (by omega) hpc hlX).mono ?_
      rintro e W5 ⟨hp, hb⟩
      obtain ⟨kk, hkk, rfl⟩ := hp.not (fun h => HW'.out ⟨⟨h.2.1, h.2.2.1⟩, h.2.2.2.2⟩)
      have H5 := Lib.hid (show _ ∧ _ from ⟨below_after H4.out.1 hb H4.out.1.size, blk_below H4.out.2 hb (blk_lt H4.out.2)⟩)
      clear hb
      go_upto_region 7 with fail
      have H6 := Lib.hid (show _ ∧ _ from ⟨below_after H5.out.1 ((Below.refl W5.heap.size W5).alloc (Nat.le_refl _) (.cells #[.slice none 0 0, .slice none 0 0, .int .i64 0, .bool false] 25)) H5.out.1.size, blk_below H5.out.2 ((Below.refl W5.heap.size W5).alloc (Nat.le_refl _) (.cells #[.slice none 0 0, .slice none 0 0, .int .i64 0, .bool false] 25)) (blk_lt H5.out.2)⟩)
      have hzW6 : W5.heap.size < (W5.alloc (.cells #[.slice none 0 0, .slice none 0 0, .int .i64 0, .bool false] 25)).heap.size := by simp
      generalize W5.alloc (.cells #[.slice none 0 0, .slice none 0 0, .int .i64 0, .bool false] 25) = W6 at *
      go_wp2
      go_ret
      exact ⟨rfl, H6.out.1⟩
  · have HE := Lib.hid he
    clear he
    have xd0 := blk_cell H3.out.2 0
    have xd1 := blk_cell H3.out.2 1
    have xd2 := blk_cell H3.out.2 2
    have xd3 := blk_cell H3.out.2 3
    go_wp2_with fail
    clear xd0 xd1 xd2 xd3
    refine (read_any S P lf st sa sb so sn sc pa pb po pn pc o _ (HA.out.1.below H3.out.1 (Nat.le_refl _)) (HA.out.2.1.below H3.out.1 (Nat.le_refl _)) (by omega) (by omega)).mono ?_
    rintro e W4 ⟨hp, hb⟩
    replace hp := hp.bad HE.out
    subst hp
    have H4 := Lib.hid (show _ ∧ _ from ⟨below_after H3.out.1 hb H3.out.1.size, blk_below H3.out.2 hb (blk_lt H3.out.2)⟩)
    clear hb
    have xd0 := blk_cell H4.out.2 0
    have xd1 := blk_cell H4.out.2 1
    have xd2 := blk_cell H4.out.2 2
    have xd3 := blk_cell H4.out.2 3
    go_wp2_with fail
    clear xd0 xd1 xd2 xd3
    refine (write_any S P lf st sa sb so sn sc pa pb po pn pc i X _ (HA.out.1.below H4.out.1 (Nat.le_refl _)) (HA.out.2.1.below H4.out.1 (Nat.le_refl _)) (HA.out.2.2.1.below H4.out.1 (Nat.le_refl _)) (by omega) (by omega) hpc hlX).mono ?_
    rintro e W5 ⟨hp, hb⟩
    obtain ⟨a1, n1, k1, a2, n2, k2, x1, s1, kk, rfl⟩ := hp.shape
    have H5 := Lib.hid (show _ ∧ _ from ⟨below_after H4.out.1 hb H4.out.1.size, blk_below H4.out.2 hb (blk_lt H4.out.2)⟩)
    clear hb
    go_upto_region 7 with fail
    have H6 := Lib.hid (show _ ∧ _ from ⟨below_after H5.out.1 ((Below.refl W5.heap.size W5).alloc (Nat.le_refl _) (.cells #[.slice a1 n1 k1, .slice a2 n2 k2, .int .i64 x1, .bool s1] 25)) H5.out.1.size, blk_below H5.out.2 ((Below.refl W5.heap.size W5).alloc (Nat.le_refl _) (.cells #[.slice a1 n1 k1, .slice a2 n2 k2, .int .i64 x1, .bool s1] 25)) (blk_lt H5.out.2)⟩)
    have hzW6 : W5.heap.size < (W5.alloc (.cells #[.slice a1 n1 k1, .slice a2 n2 k2, .int .i64 x1, .bool s1] 25)).heap.size := by simp
    generalize W5.alloc (.cells #[.slice a1 n1 k1, .slice a2 n2 k2, .int .i64 x1, .bool s1] 25) = W6 at *
    go_wp2
    go_ret
    exact ⟨rfl, H6.out.1⟩
end Go.Proofs.Ytbimmahlcceadaa
