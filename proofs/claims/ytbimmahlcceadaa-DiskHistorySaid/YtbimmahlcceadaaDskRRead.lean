/- What a disk reads, and the reference's Read (layer 4). -/
import Derived.Test.YtbimmahlcceadaaDskRun
namespace Go.Proofs.Ytbimmahlcceadaa
open Go.ChangeShapes Go.WideShapes Go.ChangeAt Go.RowKit
/-- The last of the first k writes to a sector, else what lies there. -/
def rdK (P : List Wr) (a : Int) (b : Sl) : Nat → Sl
  | 0 => b
  | k + 1 => if (nW P k).1 = a then (nW P k).2 else rdK P a b k
theorem rdK_yes {P : List Wr} {a : Int} {b : Sl} {k : Nat} (h : (nW P k).1 = a) : rdK P a b (k + 1) = (nW P k).2 := if_pos h
theorem rdK_no {P : List Wr} {a : Int} {b : Sl} {k : Nat} (h : ¬ (nW P k).1 = a) : rdK P a b (k + 1) = rdK P a b k := if_neg h
/-- What Read answers. -/
def ReadR (S : List Sl) (P : List Wr) (r : Bool) (sn pn : Nat) (i : Int) (e : Ending) : Prop :=
  (¬ (r = true ∧ 0 ≤ i ∧ i < (sn : Int)) ∧ e = .returned (.tuple #[.slice none 0 0, .int .i64 40])) ∨ (r = true ∧ 0 ≤ i ∧ i < (sn : Int) ∧ e = .returned (.tuple #[slV (rdK P i (nS S i.toNat) pn), .int .i64 0]))
set_option maxHeartbeats 4000000 in
theorem rread_any (S : List Sl) (P : List Wr) (lf : Int) (st : Bool) (sa : Option Addr) (sb so sn sc : Nat) (pa : Option Addr) (pb po pn pc : Nat) (i : Int) (w : World) (hS : Secs w sa sb so sn S) (hP : Pens w pa pb po pn P) (hsn : sn ≤ 9223372036854775807) (hpn : pn ≤ 9223372036854775807) :
    Calls Try.prog 22 #[.agg #[.slice sa sn sc, .slice pa pn pc, .int .i64 lf, .bool st], .int .i64 i] w fun e w' => ReadR S P (runB ⟨S, P, lf, st⟩) sn pn i e ∧ Below w.heap.size w w' := by
  have HH := Lib.hid (And.intro hS hP)
  clear hS hP
  go_enter Try.func22, Try.ntmps22
  go_upto_region 1 with fail
  have hb0 : Below w.heap.size w (w.alloc (.cells #[.slice sa sn sc, .slice pa pn pc, .int .i64 lf, .bool st] 25)) := (Below.refl _ _).alloc (Nat.le_refl _) _
  have hbx := blk_new w (.cells #[.slice sa sn sc, .slice pa pn pc, .int .i64 lf, .bool st] 25)
  have hlt := blk_lt hbx
  generalize w.alloc (.cells #[.slice sa sn sc, .slice pa pn pc, .int .i64 lf, .bool st] 25) = W1 at *
  have x0 := blk_cell hbx 0
  have x1 := blk_cell hbx 1
  have x2 := blk_cell hbx 2
  have x3 := blk_cell hbx 3
  have HB := Lib.hid (And.intro hb0 (And.intro hbx hlt))
  clear hb0 hbx hlt
  go_wp2_with fail
  refine (rcheck_any S P lf st sa sb so sn sc pa pb po pn pc W1 (HH.out.1.below HB.out.1 (Nat.le_refl _)) (HH.out.2.below HB.out.1 (Nat.le_refl _)) hsn hpn).mono ?_
  rintro e W2 ⟨rfl, hb2⟩
  have hx2 := blk_below HB.out.2.1 hb2 HB.out.2.2
  have y0 := blk_cell hx2 0
  have y1 := blk_cell hx2 1
  have y2 := blk_cell hx2 2
  have y3 := blk_cell hx2 3
  clear x0 x1 x2 x3
  have H2 := Lib.hid (HB.out.1.trans (hb2.mono HB.out.1.size))
  clear hb2 hx2
  by_cases hv : Valid ⟨S, P, lf, st⟩
  case neg =>
    rw [chkE_bad hv]
    have HR := Lib.hid (show ¬ (runB ⟨S, P, lf, st⟩ = true ∧ 0 ≤ i ∧ i < (sn : Int)) from fun h => by rw [runB_f (fun g => hv g.1)] at h; exact absurd h.1 (by simp))
    clear hv
    go_wp2
    go_ret2
    exact ⟨.inl ⟨HR.out, rfl⟩, H2.out⟩
  rw [chkE_ok hv]
  cases st
  case true =>
    have HR := Lib.hid (show ¬ (runB ⟨S, P, lf, true⟩ = true ∧ 0 ≤ i ∧ i < (sn : Int)) from fun h => by rw [runB_f (fun g => by cases g.2)] at h; exact absurd h.1 (by simp))
    clear hv
    go_wp2
    go_ret2
    exact ⟨.inl ⟨HR.out, rfl⟩, H2.out⟩
  have HR := Lib.hid (runB_t hv rfl)
  clear hv
  by_cases c0 : i < 0
  · have HC := Lib.hid c0
    go_wp2
    go_ret2
    exact ⟨.inl ⟨fun h => by have := HC.out; omega, rfl⟩, H2.out⟩
  by_cases c1 : (sn : Int) ≤ i
  · have HC := Lib.hid c1
    go_wp2
    go_ret2
    exact ⟨.inl ⟨fun h => by have := HC.out; omega, rfl⟩, H2.out⟩
  have c2 : i < (sn : Int) := by omega
  have c3 : 0 ≤ i := by omega
  obtain ⟨j, rfl⟩ := Int.eq_ofNat_of_zero_le c3
  have HJ := Lib.hid (show j < sn by omega)
  obtain rfl := HH.out.1.adr (by omega)
  have hc := (H2.out.cell (p := ⟨sb, so + j, none⟩) (HH.out.1.old (by omega))).trans (HH.out.1.cel j HJ.out)
  generalize hX : nS S j = X at hc
  unfold slV at hc
  have HX := Lib.hid hX
  clear hX
  go_wp2_with fail
  go_loopw [6, 7] (fun v q wr => ∃ k : Nat, k ≤ pn ∧ q = .int .i64 k ∧ v = slV (rdK P j X k) ∧ wr = W2) (fun _ q _ => pn - (intOf q).toNat)
  case atStart => exact ⟨0, Nat.zero_le _, rfl, rfl, rfl⟩
  case round =>
    obtain ⟨k, hk, rfl, rfl, hwr⟩ := hrel
    subst wr
    by_cases hkp : k < pn
    · have j1 : (k : Int) < (pn : Int) := by omega
      have j2 : ¬ (k : Int) < 0 := by omega
      have u1 : IntKind.i64.wrap ((k : Int) + 1) = ((k + 1 : Nat) : Int) := (wrap_id (by omega)).trans (by omega)
      obtain rfl := HH.out.2.adr (by omega)
      have d0 := (H2.out.cell (p := ⟨pb, po + k * 2, none⟩) (HH.out.2.old (by omega))).trans (HH.out.2.at_ k hkp)
      have d1 := (H2.out.cell (p := ⟨pb, po + k * 2 + 1, none⟩) (HH.out.2.old (by omega))).trans (HH.out.2.cel k hkp)
      by_cases ha : (nW P k).1 = (j : Int)
      · have HA := Lib.hid (rdK_yes (b := X) ha)
        have j3 : ((nW P k).1 == (j : Int)) = true := by simp [ha]
        clear ha
        generalize (nW P k).1 = A at *
        generalize hZ : (nW P k).2 = Z at *
        clear hZ
        unfold slV at d1
        generalize slV (rdK P j X k) = V at *
        go_wp2_with fail
        go_roundw
        case rel => exact ⟨k + 1, hkp, by go_num, by rw [HA.out]; rfl, trivial⟩
        case measure => simp [intOf]; omega
      · have HA := Lib.hid (rdK_no (b := X) ha)
        have j3 : ((nW P k).1 == (j : Int)) = false := by simp [ha]
        clear ha
        generalize (nW P k).1 = A at *
        generalize hV : slV (rdK P j X k) = V at *
        have HV := Lib.hid hV
        clear d1 hV
        go_wp2_with fail
        go_roundw
        case rel => exact ⟨k + 1, hkp, by go_num, by rw [HA.out, HV.out], trivial⟩
        case measure => simp [intOf]; omega
    · obtain rfl : k = pn := by omega
      have j1 : ¬ (k : Int) < (k : Int) := by omega
      generalize hV : slV (rdK P j X k) = V at *
      have HV := Lib.hid hV
      clear hV
      go_wp2
      go_ret2
      exact ⟨.inr ⟨HR.out, by omega, by omega, by rw [← HV.out, ← HX.out]; rfl⟩, H2.out⟩
end Go.Proofs.Ytbimmahlcceadaa
