/- The reference's circular (layer 13). -/
import Derived.Test.YthncfhfnboocmaaLnkRLink
namespace Go.Proofs.Ythncfhfnboocmaa
open Go.ChangeShapes Go.WideShapes Go.ChangeAt Go.RowKit

noncomputable def cirB (m : Int) (l : List Jt) : Bool := by classical exact if ends2 m l then false else true
theorem cirB_f {m : Int} {l : List Jt} (h : ends2 m l) : cirB m l = false := if_pos h
theorem cirB_t {m : Int} {l : List Jt} (h : ¬ ends2 m l) : cirB m l = true := if_neg h

set_option maxRecDepth 100000 in
set_option maxHeartbeats 8000000 in
theorem rCirc (m : Nat) (a : Option Addr) (b off n cap : Nat) (l : List Jt) (w : World) (h : Js w a n b off l) (hn : n ≤ 256) (hm : m ≤ 256) (hap : apart l n) :
    Calls Try.prog 26 #[.int .i64 (m : Int), .slice a n cap] w fun e w' => e = .returned (.bool (cirB (m : Int) l)) ∧ Below w.heap.size w w' := by
  have hl := h.1
  have HK := Lib.hid (show _ ∧ _ from ⟨h, hap⟩)
  clear h hap
  go_enter Try.func26, Try.ntmps26
  go_wp2
  go_loopw [5] (fun i wr => ∃ p : Nat, p ≤ m ∧ i = .int .i64 p ∧ (∀ q : Nat, q < p → bks l (m + 1) (some (q : Int)) = none) ∧ Below w.heap.size w wr) (fun i _ => m - (intOf i).toNat)
  case atStart => exact ⟨0, Nat.zero_le _, rfl, fun q hq => by omega, Below.refl _ _⟩
  case round =>
    obtain ⟨p, hp, rfl, hall, hb⟩ := hrel
    by_cases hlt : p < m
    case neg =>
      obtain rfl : p = m := by omega
      have EB := Lib.hid (cirB_f (m := (p : Int)) (l := l) (fun q h0 h1 => by
        have := hall q.toNat (by omega)
        rw [Int.toNat_natCast, show q = ((q.toNat : Nat) : Int) by omega]
        simpa using this))
      clear hall
      go_wp2
      go_ret
      exact ⟨by rw [EB.out]; rfl, hb⟩
    have i2 : (p : Int) < (m : Int) := by omega
    have up : IntKind.i64.wrap ((p : Int) + 1) = (p : Int) + 1 := wrap_id (by omega)
    have HA := Lib.hid (show _ ∧ _ from ⟨hall, hb⟩)
    have hz := hb.size
    clear hall hb
    go_wp2_with fail
    go_loopw [6, 7] (fun v i ww => ∃ (s : Nat) (y : Int), s ≤ m ∧ v = .int .i64 y ∧ i = .int .i64 s ∧ bks l s (some (p : Int)) = some y ∧ Below w.heap.size w ww) (fun _ i _ => m + 1 - (intOf i).toNat)
    case atStart => exact ⟨0, p, Nat.zero_le _, rfl, rfl, rfl, HA.out.2⟩
    case round =>
      obtain ⟨s, y, hs, rfl, rfl, hbk, hb⟩ := hrel
      have us : IntKind.i64.wrap ((s : Int) + 1) = (s : Int) + 1 := wrap_id (by omega)
      by_cases e0 : srcN l y n = 0
      · have hbn : bks l (m + 1) (some (p : Int)) = none := bks_mono (a := s + 1) (by omega) (by rw [bks_succ, hbk]; show bk l y = none; subst hl; unfold bk; rw [if_pos e0])
        have HN := Lib.hid (show ∀ q : Nat, q < p + 1 → bks l (m + 1) (some (q : Int)) = none from fun q hq => by
          by_cases e : q = p
          · subst e; exact hbn
          · exact HA.out.1 q (by omega))
        have HB := Lib.hid hb
        clear hbk hbn
        have ez : (srcN l y n : Int) - 1 = -1 := by omega
        go_wp2_with (go_at_call 30; refine (rLink a b off n cap l y _ (HK.out.1.grown HB.out) hn HK.out.2).mono ?_; rintro e' w' ⟨rfl, rfl⟩; rw [ez])
        go_roundw
        case rel => exact ⟨p + 1, by omega, by go_num, HN.out, HB.out⟩
        case measure => simp [intOf]; omega
      · have hle := srcN_le l y n
        obtain ⟨q, hq⟩ : ∃ q : Nat, srcN l y n = q + 1 := ⟨srcN l y n - 1, by omega⟩
        have ez : (srcN l y n : Int) - 1 = (q : Int) := by omega
        have hb1 : bks l (s + 1) (some (p : Int)) = some (nthJ l q).1 := by
          rw [bks_succ, hbk]
          show bk l y = _
          unfold bk
          rw [hl, if_neg e0, hq, Nat.add_sub_cancel]
        obtain ⟨rfl, hbw⟩ := HK.out.1.2.1 (by omega)
        obtain ⟨c0, c1, c2, c3, c4⟩ := (HK.out.1.grown hb).2.2 q (by omega)
        have i3 : (q : Int) < (n : Int) := by omega
        have HB := Lib.hid hb
        clear hbk hb hq e0 hle c1 c2 c3 c4
        by_cases hsm : s < m
        · have HE := Lib.hid hb1
          clear hb1
          have i4 : ¬ (m : Int) < (s : Int) + 1 := by omega
          go_wp2_with (go_at_call 30; refine (rLink _ b off n cap l y _ (HK.out.1.grown HB.out) hn HK.out.2).mono ?_; rintro e' w' ⟨rfl, rfl⟩; rw [ez])
          go_roundw
          case rel => exact ⟨s + 1, _, by omega, rfl, by go_num, HE.out, HB.out⟩
          case measure => simp [intOf]; omega
        · obtain rfl : s = m := by omega
          have EB := Lib.hid (cirB_t (m := (s : Int)) (l := l) (fun g => by
            have := g p (by omega) (by omega)
            rw [Int.toNat_natCast, hb1] at this
            cases this))
          clear hb1
          have i4 : (s : Int) < (s : Int) + 1 := by omega
          go_wp2_with (go_at_call 30; refine (rLink _ b off n cap l y _ (HK.out.1.grown HB.out) hn HK.out.2).mono ?_; rintro e' w' ⟨rfl, rfl⟩; rw [ez])
          go_ret
          exact ⟨by rw [EB.out]; rfl, HB.out⟩
end Go.Proofs.Ythncfhfnboocmaa
