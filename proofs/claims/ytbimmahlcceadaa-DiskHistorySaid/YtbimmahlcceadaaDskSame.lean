/- Same (layer 4). -/
import Derived.Test.YtbimmahlcceadaaDskRun
import Derived.Laws.BytesArg
namespace Go.Proofs.Ytbimmahlcceadaa
open Go.ChangeShapes Go.WideShapes Go.ChangeAt Go.RowKit
theorem below_drewN {B n : Nat} {a w : World} (h : Below B a w) : Below B a (w.drewN n) := ⟨h.os, h.tape, h.output, h.size, h.block⟩
/-- A slice of bytes as a string. -/
theorem slr_conv {w : World} {s : Sl} (h : SlR w s) : (convert 35 9 (.slice s.1 s.2.2.length s.2.1)).run Try.prog w = .ok (.string (strOfNums s.2.2)) w := by
  obtain ⟨b, off, hR, -, -⟩ := h
  obtain ⟨a, c, l⟩ := s
  dsimp only at *
  by_cases h0 : 0 < l.length
  · obtain rfl := hR.adr h0
    exact run_convert_bytes_arg w _ _ Try.underlying35 Try.underlying5 b off l.length c l rfl (fun i hi => hR.cel i hi) _ Try.underlying9
  · obtain rfl : l = [] := by
      cases l with
      | nil => rfl
      | cons => simp at h0
    cases a with
    | none => exact run_convert_bytes_nil w _ _ Try.underlying35 Try.underlying5 _ _ _ Try.underlying9
    | some x =>
      have := run_bytesToString (P := Try.prog) w x 0 c [] (run_loadCells_list w x [] (by simp))
      rw [run_convert_bytes_string w _ _ _ _ _ _ Try.underlying35 Try.underlying5 Try.underlying9]
      exact this
theorem slr_convN {w : World} {s : Sl} (h : SlR w s) (n : Nat) : (convert 35 9 (.slice s.1 s.2.2.length s.2.1)).run Try.prog (w.drewN n) = .ok (.string (strOfNums s.2.2)) (w.drewN n) :=
  slr_conv (h.below (below_drewN (Below.refl w.heap.size w)) (Nat.le_refl _))
/-- Two disks hold the same. -/
def SameS (S S2 : List Sl) (n : Nat) : Prop := ∀ i, i < n → (nS S i).2.2 = (nS S2 i).2.2
def SameP (P P2 : List Wr) (n : Nat) : Prop := ∀ i, i < n → (nW P i).1 = (nW P2 i).1 ∧ (nW P i).2.2.2 = (nW P2 i).2.2.2
set_option maxHeartbeats 4000000 in
theorem same_any (S S2 : List Sl) (P P2 : List Wr) (lf : Int) (st : Bool) (sa sa2 : Option Addr) (sb so sb2 so2 sn sc sc2 : Nat) (pa pa2 : Option Addr) (pb po pb2 po2 pn pc pc2 : Nat) (w : World) (hS : Secs w sa sb so sn S) (hP : Pens w pa pb po pn P) (hS2 : Secs w sa2 sb2 so2 sn S2) (hP2 : Pens w pa2 pb2 po2 pn P2) (hsn : sn ≤ 9223372036854775807) (hpn : pn ≤ 9223372036854775807) (hsS : SameS S S2 sn) (hsP : SameP P P2 pn) :
    Calls Try.prog 14 #[.agg #[.slice sa sn sc, .slice pa pn pc, .int .i64 lf, .bool st], .agg #[.slice sa2 sn sc2, .slice pa2 pn pc2, .int .i64 lf, .bool st]] w fun e w' => e = .returned (.bool true) ∧ Below w.heap.size w w' := by
  have HH := Lib.hid (show _ ∧ _ ∧ _ ∧ _ from ⟨hS, hP, hS2, hP2⟩)
  have HE := Lib.hid (show _ ∧ _ from ⟨hsS, hsP⟩)
  clear hS hP hS2 hP2 hsS hsP
  go_enter Try.func14, Try.ntmps14
  go_upto_region 1 with fail
  have hbx := blk_alloc (blk_new w (.cells #[.slice sa sn sc, .slice pa pn pc, .int .i64 lf, .bool st] 25)) (.cells #[.slice sa2 sn sc2, .slice pa2 pn pc2, .int .i64 lf, .bool st] 25)
  have hbz := blkZ (W := w.alloc (.cells #[.slice sa sn sc, .slice pa pn pc, .int .i64 lf, .bool st] 25)) (o := .cells #[.slice sa2 sn sc2, .slice pa2 pn pc2, .int .i64 lf, .bool st] 25) (k := w.heap.size + 1) (by simp)
  have hb0 : Below w.heap.size w ((w.alloc (.cells #[.slice sa sn sc, .slice pa pn pc, .int .i64 lf, .bool st] 25)).alloc (.cells #[.slice sa2 sn sc2, .slice pa2 pn pc2, .int .i64 lf, .bool st] 25)) := ((Below.refl _ _).alloc (Nat.le_refl _) _).alloc (by simp) _
  have hlt := blk_lt hbx
  have hlz := blk_lt hbz
  generalize (w.alloc (.cells #[.slice sa sn sc, .slice pa pn pc, .int .i64 lf, .bool st] 25)).alloc (.cells #[.slice sa2 sn sc2, .slice pa2 pn pc2, .int .i64 lf, .bool st] 25) = W1 at *
  have x0 := blk_cell hbx 0
  have x1 := blk_cell hbx 1
  have x2 := blk_cell hbx 2
  have x3 := blk_cell hbx 3
  have z0 := blk_cell hbz 0
  have z1 := blk_cell hbz 1
  have z2 := blk_cell hbz 2
  have z3 := blk_cell hbz 3
  have H1 := Lib.hid (show _ ∧ _ ∧ _ ∧ _ ∧ _ from ⟨hbx, hbz, hb0, hlt, hlz⟩)
  clear hbx hbz hb0 hlt hlz
  go_wp2_with fail
  clear x0 x1 x2 x3 z0 z1 z2 z3
  go_loopw [5] (fun v wr => ∃ k : Nat, k ≤ sn ∧ v = .int .i64 k ∧ Below W1.heap.size W1 wr) (fun v _ => sn - (intOf v).toNat)
  case atStart => exact ⟨0, Nat.zero_le _, rfl, Below.refl _ _⟩
  case round =>
    obtain ⟨k, hk, rfl, hBr⟩ := hrel
    have bx := blk_below H1.out.1 hBr H1.out.2.2.2.1
    have bz := blk_below H1.out.2.1 hBr H1.out.2.2.2.2
    have x0 := blk_cell bx 0
    have x1 := blk_cell bx 1
    have z0 := blk_cell bz 0
    have z1 := blk_cell bz 1
    clear bx bz
    have HB := Lib.hid hBr
    clear hBr
    by_cases hks : k < sn
    · have j1 : (k : Int) < (sn : Int) := by omega
      have j2 : ¬ (k : Int) < 0 := by omega
      have u1 : IntKind.i64.wrap ((k : Int) + 1) = ((k + 1 : Nat) : Int) := (wrap_id (by omega)).trans (by omega)
      obtain rfl := HH.out.1.adr (by omega)
      obtain rfl := HH.out.2.2.1.adr (by omega)
      have hbw := H1.out.2.2.1.trans (HB.out.mono H1.out.2.2.1.size)
      have c1 := (hbw.cell (p := ⟨sb, so + k, none⟩) (HH.out.1.old (by omega))).trans (HH.out.1.cel k hks)
      have c2 := (hbw.cell (p := ⟨sb2, so2 + k, none⟩) (HH.out.2.2.1.old (by omega))).trans (HH.out.2.2.1.cel k hks)
      have v1 := slr_convN ((HH.out.1.row k hks).below hbw (Nat.le_refl _))
      have v2 := slr_convN ((HH.out.2.2.1.row k hks).below hbw (Nat.le_refl _))
      have e := HE.out.1 k hks
      unfold slV at c1 c2
      rw [e] at v1 c1
      clear e hbw
      generalize nS S k = X at *
      generalize nS S2 k = Z at *
      go_wp2
      go_quiet (fail)
      go_wp2
      go_roundw
      case rel => exact ⟨k + 1, hks, by go_num, below_drewN HB.out⟩
      case measure => simp [intOf]; omega
    · obtain rfl : k = sn := by omega
      have j1 : ¬ (k : Int) < (k : Int) := by omega
      go_wp2_with fail
      clear x0 x1 z0 z1
      have HB1 := HB
      go_loopw [6] (fun v wr => ∃ q : Nat, q ≤ pn ∧ v = .int .i64 q ∧ Below W1.heap.size W1 wr) (fun v _ => pn - (intOf v).toNat)
      case atStart => exact ⟨0, Nat.zero_le _, rfl, HB1.out⟩
      case round =>
        obtain ⟨q, hq, rfl, hBr⟩ := hrel
        have bx := blk_below H1.out.1 hBr H1.out.2.2.2.1
        have bz := blk_below H1.out.2.1 hBr H1.out.2.2.2.2
        have x0 := blk_cell bx 0
        have x1 := blk_cell bx 1
        have z0 := blk_cell bz 0
        have z1 := blk_cell bz 1
        clear bx bz
        have HB := Lib.hid hBr
        clear hBr
        by_cases hqp : q < pn
        · have j3 : (q : Int) < (pn : Int) := by omega
          have j4 : ¬ (q : Int) < 0 := by omega
          have u1 : IntKind.i64.wrap ((q : Int) + 1) = ((q + 1 : Nat) : Int) := (wrap_id (by omega)).trans (by omega)
          obtain rfl := HH.out.2.1.adr (by omega)
          obtain rfl := HH.out.2.2.2.adr (by omega)
          have hbw := H1.out.2.2.1.trans (HB.out.mono H1.out.2.2.1.size)
          have a1 := (hbw.cell (p := ⟨pb, po + q * 2, none⟩) (HH.out.2.1.old (by omega))).trans (HH.out.2.1.at_ q hqp)
          have a2 := (hbw.cell (p := ⟨pb2, po2 + q * 2, none⟩) (HH.out.2.2.2.old (by omega))).trans (HH.out.2.2.2.at_ q hqp)
          have c1 := (hbw.cell (p := ⟨pb, po + q * 2 + 1, none⟩) (HH.out.2.1.old (by omega))).trans (HH.out.2.1.cel q hqp)
          have c2 := (hbw.cell (p := ⟨pb2, po2 + q * 2 + 1, none⟩) (HH.out.2.2.2.old (by omega))).trans (HH.out.2.2.2.cel q hqp)
          have v1 := slr_convN ((HH.out.2.1.row q hqp).below hbw (Nat.le_refl _))
          have v2 := slr_convN ((HH.out.2.2.2.row q hqp).below hbw (Nat.le_refl _))
          have e := HE.out.2 q hqp
          unfold slV at c1 c2
          rw [e.2] at v1 c1
          rw [e.1] at a1
          clear e hbw
          generalize nW P q = X at *
          generalize nW P2 q = Z at *
          have j5 : (Z.1 != Z.1) = false := by simp
          go_wp2
          go_quiet (fail)
          go_wp2
          go_roundw
          case rel => exact ⟨q + 1, hqp, by go_num, below_drewN HB.out⟩
          case measure => simp [intOf]; omega
        · obtain rfl : q = pn := by omega
          have j3 : ¬ (q : Int) < (q : Int) := by omega
          go_wp2
          go_ret
          exact ⟨rfl, H1.out.2.2.1.trans (HB.out.mono H1.out.2.2.1.size)⟩
end Go.Proofs.Ytbimmahlcceadaa
