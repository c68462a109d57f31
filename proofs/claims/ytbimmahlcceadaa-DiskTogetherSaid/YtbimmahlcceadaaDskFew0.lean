/- Few (layer 4). -/
import Derived.Test.YtbimmahlcceadaaDskRun
namespace Go.Proofs.Ytbimmahlcceadaa
open Go.ChangeShapes Go.WideShapes Go.ChangeAt Go.RowKit
def FewQ (e : Ending) : Prop := ∃ r : Bool, e = .returned (.bool r)
set_option maxHeartbeats 4000000 in
theorem few_all (S : List Sl) (P : List Wr) (lf : Int) (st : Bool) (sa : Option Addr) (sb so sn sc : Nat) (pa : Option Addr) (pb po pn pc : Nat) (w : World) (hS : Secs w sa sb so sn S) (hP : Pens w pa pb po pn P) (hsn : sn ≤ 9223372036854775807) (hpn : pn ≤ 9223372036854775807) :
    Calls Try.prog 11 #[.agg #[.slice sa sn sc, .slice pa pn pc, .int .i64 lf, .bool st]] w fun e w' => FewQ e ∧ Below w.heap.size w w' := by
  have HH := Lib.hid (And.intro hS hP)
  clear hS hP
  go_enter Try.func11, Try.ntmps11
  go_upto_region 1 with fail
  have hb0 : Below w.heap.size w (w.alloc (.cells #[.slice sa sn sc, .slice pa pn pc, .int .i64 lf, .bool st] 25)) := (Below.refl _ _).alloc (Nat.le_refl _) _
  have hbx := blk_new w (.cells #[.slice sa sn sc, .slice pa pn pc, .int .i64 lf, .bool st] 25)
  generalize w.alloc (.cells #[.slice sa sn sc, .slice pa pn pc, .int .i64 lf, .bool st] 25) = W1 at *
  have x0 := blk_cell hbx 0
  have x1 := blk_cell hbx 1
  have H1 := Lib.hid hb0
  clear hb0 hbx
  go_wp2_with fail
  go_loopw [3, 4] (fun v q wr => ∃ (k : Nat) (x : Int), k ≤ sn ∧ q = .int .i64 k ∧ v = .int .i64 x ∧ wr = W1) (fun _ q _ => sn - (intOf q).toNat)
  case atStart => exact ⟨0, 0, Nat.zero_le _, rfl, rfl, rfl⟩
  case round =>
    obtain ⟨k, x, hk, rfl, rfl, hwr⟩ := hrel
    subst wr
    by_cases hgo : k < sn ∧ x ≤ 9000
    · have j1 : (k : Int) < (sn : Int) := by omega
      have j2 : ¬ (k : Int) < 0 := by omega
      have j3 : x ≤ 9000 := hgo.2
      have u1 : IntKind.i64.wrap ((k : Int) + 1) = ((k + 1 : Nat) : Int) := (wrap_id (by omega)).trans (by omega)
      obtain rfl := HH.out.1.adr (by omega)
      have hc := (H1.out.cell (p := ⟨sb, so + k, none⟩) (HH.out.1.old (by omega))).trans (HH.out.1.cel k hgo.1)
      unfold slV at hc
      have HG := Lib.hid hgo.1
      clear hgo
      generalize nS S k = X at *
      go_wp2_with fail
      go_roundw
      case rel => exact ⟨k + 1, _, HG.out, by go_num, rfl, trivial⟩
      case measure => have := HG.out; simp [intOf]; omega
    · have hq : ¬ (k : Int) < (sn : Int) ∨ ((k : Int) < (sn : Int) ∧ ¬ x ≤ 9000) := by omega
      clear hgo
      rcases hq with q1 | ⟨q1, q2⟩
      all_goals
        go_wp2_with fail
        go_loopw [3, 5] (fun v q wr => ∃ (m : Nat) (y : Int), m ≤ pn ∧ q = .int .i64 m ∧ v = .int .i64 y ∧ wr = W1) (fun _ q _ => pn - (intOf q).toNat)
        case atStart => exact ⟨0, x, Nat.zero_le _, rfl, rfl, rfl⟩
        case round =>
          obtain ⟨m, y, hm, rfl, rfl, hwr⟩ := hrel
          subst wr
          by_cases hgo : m < pn ∧ y ≤ 9000
          · have j1 : (m : Int) < (pn : Int) := by omega
            have j2 : ¬ (m : Int) < 0 := by omega
            have j3 : y ≤ 9000 := hgo.2
            have u1 : IntKind.i64.wrap ((m : Int) + 1) = ((m + 1 : Nat) : Int) := (wrap_id (by omega)).trans (by omega)
            obtain rfl := HH.out.2.adr (by omega)
            have hc := (H1.out.cell (p := ⟨pb, po + m * 2 + 1, none⟩) (HH.out.2.old (by omega))).trans (HH.out.2.cel m hgo.1)
            unfold slV at hc
            have HG := Lib.hid hgo.1
            clear hgo
            generalize (nW P m).2 = X at *
            go_wp2_with fail
            go_roundw
            case rel => exact ⟨m + 1, _, HG.out, by go_num, rfl, trivial⟩
            case measure => have := HG.out; simp [intOf]; omega
          · have hr : ¬ (m : Int) < (pn : Int) ∨ ((m : Int) < (pn : Int) ∧ ¬ y ≤ 9000) := by omega
            clear hgo
            rcases hr with r1 | ⟨r1, r2⟩
            all_goals
              go_wp2
              go_ret
              exact ⟨⟨_, rfl⟩, H1.out⟩
end Go.Proofs.Ytbimmahlcceadaa
