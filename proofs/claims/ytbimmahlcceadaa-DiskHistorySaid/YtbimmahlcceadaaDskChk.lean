/- Check of a disk (layer 4). -/
import Derived.Test.YtbimmahlcceadaaDsk
namespace Go.Proofs.Ytbimmahlcceadaa
open Go.ChangeShapes Go.WideShapes Go.ChangeAt Go.RowKit
set_option maxHeartbeats 4000000 in
theorem check_any (S : List Sl) (P : List Wr) (lf : Int) (st : Bool) (sa : Option Addr) (sb so sn sc : Nat) (pa : Option Addr) (pb po pn pc : Nat) (w : World) (hS : Secs w sa sb so sn S) (hP : Pens w pa pb po pn P) (hsn : sn ≤ 9223372036854775807) (hpn : pn ≤ 9223372036854775807) :
    Calls Try.prog 15 #[.agg #[.slice sa sn sc, .slice pa pn pc, .int .i64 lf, .bool st]] w fun e w' => e = .returned (.int .i64 (chkE ⟨S, P, lf, st⟩)) ∧ Below w.heap.size w w' := by
  by_cases c0 : (sn : Int) < 1
  · have HN := Lib.hid (show ¬ Valid ⟨S, P, lf, st⟩ from fun h => by have := h.1; unfold okHead at this; simp only [hS.len, hP.len] at this; omega)
    clear hS hP
    go_enter Try.func15, Try.ntmps15
    go_wp2
    go_ret
    exact ⟨by rw [chkE_bad HN.out]; rfl, (Below.refl _ _).alloc (Nat.le_refl _) _⟩
  by_cases c1 : (4096 : Int) < (sn : Int)
  · have HN := Lib.hid (show ¬ Valid ⟨S, P, lf, st⟩ from fun h => by have := h.1; unfold okHead at this; simp only [hS.len, hP.len] at this; omega)
    clear hS hP
    go_enter Try.func15, Try.ntmps15
    go_wp2
    go_ret
    exact ⟨by rw [chkE_bad HN.out]; rfl, (Below.refl _ _).alloc (Nat.le_refl _) _⟩
  by_cases c2 : (4096 : Int) < (pn : Int)
  · have HN := Lib.hid (show ¬ Valid ⟨S, P, lf, st⟩ from fun h => by have := h.1; unfold okHead at this; simp only [hS.len, hP.len] at this; omega)
    clear hS hP
    go_enter Try.func15, Try.ntmps15
    go_wp2
    go_ret
    exact ⟨by rw [chkE_bad HN.out]; rfl, (Below.refl _ _).alloc (Nat.le_refl _) _⟩
  by_cases c3 : lf < -1
  · have HN := Lib.hid (show ¬ Valid ⟨S, P, lf, st⟩ from fun h => by have := h.1; unfold okHead at this; simp only [hS.len, hP.len] at this; omega)
    clear hS hP
    go_enter Try.func15, Try.ntmps15
    go_wp2
    go_ret
    exact ⟨by rw [chkE_bad HN.out]; rfl, (Below.refl _ _).alloc (Nat.le_refl _) _⟩
  by_cases c4 : (65536 : Int) < lf
  · have HN := Lib.hid (show ¬ Valid ⟨S, P, lf, st⟩ from fun h => by have := h.1; unfold okHead at this; simp only [hS.len, hP.len] at this; omega)
    clear hS hP
    go_enter Try.func15, Try.ntmps15
    go_wp2
    go_ret
    exact ⟨by rw [chkE_bad HN.out]; rfl, (Below.refl _ _).alloc (Nat.le_refl _) _⟩
  have HS := Lib.hid hS
  have HP := Lib.hid hP
  have hln := Lib.hid (show okHead ⟨S, P, lf, st⟩ from by unfold okHead; simp only [hS.len, hP.len]; omega)
  have HLs := Lib.hid hS.len
  have HLp := Lib.hid hP.len
  clear hS hP
  go_enter Try.func15, Try.ntmps15
  go_upto_region 1 with fail
  have hb0 : Below w.heap.size w (w.alloc (.cells #[.slice sa sn sc, .slice pa pn pc, .int .i64 lf, .bool st] 25)) := (Below.refl _ _).alloc (Nat.le_refl _) _
  have hbx := blk_new w (.cells #[.slice sa sn sc, .slice pa pn pc, .int .i64 lf, .bool st] 25)
  have HB := Lib.hid hb0
  have HX := Lib.hid hbx
  have x0 := blk_cell hbx 0
  have x1 := blk_cell hbx 1
  have x2 := blk_cell hbx 2
  have x3 := blk_cell hbx 3
  clear hb0 hbx
  generalize w.alloc (.cells #[.slice sa sn sc, .slice pa pn pc, .int .i64 lf, .bool st] 25) = W1 at *
  go_wp2_with fail
  go_loopw [36] (fun v wr => ∃ k : Nat, k ≤ sn ∧ v = .int .i64 k ∧ Hid (∀ i, i < k → okSec (nS S i)) ∧ wr = W1) (fun v _ => sn - (intOf v).toNat)
  case atStart => exact ⟨0, Nat.zero_le _, rfl, Lib.hid (fun i hi => by omega), rfl⟩
  case round =>
    obtain ⟨k, hk, rfl, HA, hwr⟩ := hrel
    subst wr
    by_cases hks : k < sn
    · have j1 : (k : Int) < (sn : Int) := by omega
      have j2 : ¬ (k : Int) < 0 := by omega
      have u1 : IntKind.i64.wrap ((k : Int) + 1) = ((k + 1 : Nat) : Int) := (wrap_id (by omega)).trans (by omega)
      obtain rfl := HS.out.adr (by omega)
      obtain ⟨X, hX⟩ : ∃ X, X = nS S k := ⟨_, rfl⟩
      have hc := (HB.out.cell (p := ⟨sb, so + k, none⟩) (HS.out.old (by omega))).trans (HS.out.cel k hks)
      rw [← hX] at hc
      unfold slV at hc
      have HXX := Lib.hid hX
      clear hX
      by_cases hl : X.2.2.length = 128
      · have j3 : ((X.2.2.length : Int) != 128) = false := by simp; omega
        have HA2 := Lib.hid (show ∀ i, i < k + 1 → okSec (nS S i) from fun i hi => by
          rcases Nat.lt_succ_iff_lt_or_eq.1 hi with h | rfl
          · exact HA.out i h
          · rw [← HXX.out]; exact hl)
        clear hl HA
        go_wp2_with fail
        go_roundw
        case rel => exact ⟨k + 1, hks, by go_num, HA2, trivial⟩
        case measure => simp [intOf]; omega
      · have j3 : ((X.2.2.length : Int) != 128) = true := by simp; omega
        have HN := Lib.hid (show ¬ Valid ⟨S, P, lf, st⟩ from fun h => hl (by rw [HXX.out]; exact h.2.1 k (by show k < S.length; rw [HLs.out]; exact hks)))
        clear hl HA
        go_wp2
        go_ret
        exact ⟨by rw [chkE_bad HN.out]; rfl, HB.out⟩
    · obtain rfl : k = sn := by omega
      have j1 : ¬ (k : Int) < (k : Int) := by omega
      go_wp2_with fail
      go_loopw [47] (fun v wr => ∃ q : Nat, q ≤ pn ∧ v = .int .i64 q ∧ Hid (∀ i, i < q → okWr k (nW P i)) ∧ Below W1.heap.size W1 wr) (fun v _ => pn - (intOf v).toNat)
      case atStart => exact ⟨0, Nat.zero_le _, rfl, Lib.hid (fun i hi => by omega), Below.refl _ _⟩
      case round =>
        obtain ⟨q, hq, rfl, HQ, hBr⟩ := hrel
        by_cases hqp : q < pn
        · have j2 : (q : Int) < (pn : Int) := by omega
          have j3 : ¬ (q : Int) < 0 := by omega
          have u2 : IntKind.i64.wrap ((q : Int) + 1) = ((q + 1 : Nat) : Int) := (wrap_id (by omega)).trans (by omega)
          obtain rfl := HP.out.adr (by omega)
          obtain ⟨A, hA⟩ : ∃ A, A = nW P q := ⟨_, rfl⟩
          have hbr := HB.out.trans (hBr.mono HB.out.size)
          have hc0 := (hbr.cell (p := ⟨pb, po + q * 2, none⟩) (HP.out.old (by omega))).trans (HP.out.at_ q hqp)
          have hc1 := (hbr.cell (p := ⟨pb, po + q * 2 + 1, none⟩) (HP.out.old (by omega))).trans (HP.out.cel q hqp)
          rw [← hA] at hc0 hc1
          unfold slV at hc1
          have HXX := Lib.hid (show _ ∧ Below W1.heap.size W1 wr from ⟨hA, hBr⟩)
          clear hA hbr hBr
          go_upto_region 12 with fail
          have hba := HXX.out.2.alloc HXX.out.2.size (.cells #[.int .i64 A.1, .slice A.2.1 A.2.2.2.length A.2.2.1] 54)
          have hnw := blk_new wr (.cells #[.int .i64 A.1, .slice A.2.1 A.2.2.2.length A.2.2.1] 54)
          have hlt := blk_lt hnw
          generalize hW3 : wr.alloc (.cells #[.int .i64 A.1, .slice A.2.1 A.2.2.2.length A.2.2.1] 54) = W3 at *
          clear hW3
          have hxw := blk_below HX.out hba (blk_lt HX.out)
          have y0 := blk_cell hxw 0
          have y1 := blk_cell hxw 1
          have y2 := blk_cell hxw 2
          have y3 := blk_cell hxw 3
          have z0 := blk_cell hnw 0
          have z1 := blk_cell hnw 1
          have H3 := Lib.hid (show _ ∧ _ ∧ Below W1.heap.size W1 W3 from ⟨hxw, hnw, hba⟩)
          clear hxw hnw hba x0 x1 x2 x3 hc0 hc1
          have HV := Lib.hid (show Valid ⟨S, P, lf, st⟩ → okWr k A from fun h => by
            have := h.2.2 q (by show q < P.length; rw [HLp.out]; exact hqp)
            rw [HXX.out.1, ← HLs.out]
            exact this)
          by_cases c1 : 0 ≤ A.1 ∧ A.1 < (k : Int)
          · have hsb := sctB_t c1.1 c1.2
            go_wp2_with fail
            refine (sector_any _ sa k sc lf st A.1 W3).mono ?_
            rintro e W4 ⟨rfl, hb4⟩
            rw [hsb]
            have hn4 := blk_below H3.out.2.1 hb4 hlt
            have v1 := blk_cell hn4 1
            have H4 := Lib.hid (show Below W1.heap.size W1 W4 from H3.out.2.2.trans (hb4.mono H3.out.2.2.size))
            clear hn4 hb4 y0 y1 y2 y3 z0 z1
            by_cases c2 : A.2.2.2.length = 128
            · have j4 : ((A.2.2.2.length : Int) != 128) = false := by simp; omega
              have HQ2 := Lib.hid (show ∀ i, i < q + 1 → okWr k (nW P i) from fun i hi => by
                rcases Nat.lt_succ_iff_lt_or_eq.1 hi with h | rfl
                · exact HQ.out i h
                · rw [← HXX.out.1]; exact ⟨c1.1, c1.2, c2⟩)
              clear c2 HQ c1
              go_wp2_with fail
              go_roundw
              case rel => exact ⟨q + 1, hqp, by go_num, HQ2, H4.out⟩
              case measure => simp [intOf]; omega
            · have j4 : ((A.2.2.2.length : Int) != 128) = true := by simp; omega
              have HN := Lib.hid (show ¬ Valid ⟨S, P, lf, st⟩ from fun h => c2 (HV.out h).2.2)
              clear c2 HQ c1
              go_wp2
              go_ret
              exact ⟨by rw [chkE_bad HN.out]; rfl, HB.out.trans (H4.out.mono HB.out.size)⟩
          · have hsb := sctB_f (i := A.1) (n := k) (by omega)
            have HN := Lib.hid (show ¬ Valid ⟨S, P, lf, st⟩ from fun h => c1 ⟨(HV.out h).1, (HV.out h).2.1⟩)
            clear c1 HQ
            go_wp2_with fail
            refine (sector_any _ sa k sc lf st A.1 W3).mono ?_
            rintro e W4 ⟨rfl, hb4⟩
            rw [hsb]
            have H4 := Lib.hid (show Below W1.heap.size W1 W4 from H3.out.2.2.trans (hb4.mono H3.out.2.2.size))
            clear hb4
            go_wp2
            go_ret
            exact ⟨by rw [chkE_bad HN.out]; rfl, HB.out.trans (H4.out.mono HB.out.size)⟩
        · obtain rfl : q = pn := by omega
          have j1 : ¬ (q : Int) < (q : Int) := by omega
          have HN := Lib.hid (show Valid ⟨S, P, lf, st⟩ from ⟨hln.out, fun i hi => HA.out i (by rw [← HLs.out]; exact hi), fun i hi => by
            have := HQ.out i (by rw [← HLp.out]; exact hi)
            rw [← HLs.out] at this
            exact this⟩)
          clear HQ HA
          go_wp2
          go_ret
          exact ⟨by rw [chkE_ok HN.out]; rfl, HB.out.trans (hBr.mono HB.out.size)⟩
end Go.Proofs.Ytbimmahlcceadaa
