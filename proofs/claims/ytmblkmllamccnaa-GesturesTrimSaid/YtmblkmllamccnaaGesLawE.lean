/- The walk of GesturesTrim (layer 12). -/
import Derived.Test.YtmblkmllamccnaaGesLawB
namespace Go.Proofs.Ytmblkmllamccnaa
open Go.ChangeShapes Go.WideShapes Go.ChangeAt Go.RowKit

theorem quarter (x : Int) : -536870912 ≤ wrap64 ((clip x).tdiv 4) ∧ wrap64 ((clip x).tdiv 4) ≤ 536870911 := by
  have l := clip_lo x
  have h := clip_hi x
  have q : -536870912 ≤ (clip x).tdiv 4 ∧ (clip x).tdiv 4 ≤ 536870911 := by
    by_cases h0 : 0 ≤ clip x
    · rw [Int.tdiv_eq_ediv_of_nonneg h0]; omega
    · have e : clip x = -(-clip x) := by omega
      rw [e, Int.neg_tdiv, Int.tdiv_eq_ediv_of_nonneg (by omega)]; omega
  rw [IntWalk.wrap64_in _ (by omega)]
  exact q
theorem clip_id {x : Int} (h1 : -2147483648 ≤ x) (h2 : x ≤ 2147483647) : clip x = x := by unfold clip; omega
theorem trim_ok {x y A : Int} {k : Nat} (h1 : 0 ≤ x) (h2 : x < y) (h3 : y ≤ 1099511627776) (a1 : -2147483648 ≤ A) (a2 : A ≤ 2147483647) : okG (cG 3 x y y A k) := cG_ok (by omega) h1 h2 (by omega) h3 (by omega) ⟨a1, a2⟩

set_option maxRecDepth 100000 in
set_option maxHeartbeats 8000000 in
theorem gesturesTrim_walk (v0 a0 b0 x ln p : Int) (w : World) (x1 : 0 ≤ x) (x2 : x ≤ 65535) (n1 : 0 ≤ ln) (n2 : ln ≤ 65535) (p1 : -9223372036854775808 ≤ p) (p2 : p ≤ 9223372036854775807) :
    Calls Try.prog 7 #[.int .i64 v0, .int .i64 a0, .int .i64 b0, .int .u16 x, .int .u16 ln, .int .i64 p] w fun e w' => e = .returned (.bool true) ∧ Below w.heap.size w w' := by
  have qv := quarter v0; have qa := quarter a0; have qb := quarter b0
  have HQ := Lib.hid (show _ ∧ _ ∧ _ from ⟨qv, qa, qb⟩)
  clear qv qa qb
  go_enter Try.func7, Try.ntmps7
  go_wp2_with fail
  refine (sane_any _).mono ?_; rintro e w1 ⟨rfl, hB1⟩
  have HB1 := Lib.hid hB1; clear hB1
  go_wp2_with (go_at_call 19; refine (rclip_any _ _).mono ?_; rintro e w' ⟨rfl, rfl⟩)
  obtain ⟨qv, qa, qb⟩ := HQ.out
  clear HQ
  generalize wrap64 ((clip v0).tdiv 4) = V at *
  generalize wrap64 ((clip a0).tdiv 4) = A at *
  generalize wrap64 ((clip b0).tdiv 4) = B at *
  obtain ⟨qv1, qv2⟩ := qv; obtain ⟨qa1, qa2⟩ := qa; obtain ⟨qb1, qb2⟩ := qb
  obtain ⟨y, hy⟩ : ∃ y, y = x + 1 + ln := ⟨_, rfl⟩
  rw [← hy]
  have hxy : x < y := by omega
  have hy2 : y ≤ 1099511627776 := by omega
  clear hy
  refine (const_any 3 x y y A _).mono ?_
  rintro e w2 ⟨⟨k1, rfl, hg1⟩, hb⟩
  have HB2 := Lib.hid (show _ ∧ _ from ⟨below_after HB1.out hb HB1.out.size, hg1⟩); clear hb hg1
  unfold encG cG
  dsimp only
  go_wp2_with fail
  refine (const_any 3 x y y B _).mono ?_
  rintro e w3 ⟨⟨k2, rfl, hg2⟩, hb⟩
  have HB3 := Lib.hid (show _ ∧ _ ∧ _ from ⟨below_after HB2.out.1 hb HB2.out.1.size, HB2.out.2.grown hb, hg2⟩); clear hb hg2
  unfold encG cG
  dsimp only
  go_wp2_with fail
  have HL := Lib.hid (show _ ∧ _ ∧ _ from ⟨Gs.lit2 w3 (cG 3 x y y A k1) (cG 3 x y y B k2) HB3.out.2.1 HB3.out.2.2, blk_new w3 (.cells #[.int .i64 3, .int .i64 x, .int .i64 y, .int .i64 y, .slice (some ⟨k1, 0, none⟩) 1 1, .int .i64 3, .int .i64 x, .int .i64 y, .int .i64 y, .slice (some ⟨k2, 0, none⟩) 1 1] 38), HB3.out.1.alloc HB3.out.1.size (.cells #[.int .i64 3, .int .i64 x, .int .i64 y, .int .i64 y, .slice (some ⟨k1, 0, none⟩) 1 1, .int .i64 3, .int .i64 x, .int .i64 y, .int .i64 y, .slice (some ⟨k2, 0, none⟩) 1 1] 38)⟩)
  have vw : (Lit.int .i64 V).wf = true := by
    simp [Lit.wf, IntKind.min, IntKind.max, IntKind.signed, IntKind.bits]
    omega
  have HVW := Lib.hid vw
  clear vw
  refine (gvalue_any V p _ _ _ 2 2 _ _ HL.out.1 (fun _ => ⟨_, _, _, HL.out.2.1⟩) (by omega) HVW.out p1 p2).mono ?_; rintro e w4 ⟨rfl, hb⟩
  have hge := ges2 (trim_ok (k := k1) (A := A) x1 hxy hy2 (by omega) (by omega)) (trim_ok (k := k2) (A := B) x1 hxy hy2 (by omega) (by omega))
  have hval : gvalV [cG 3 x y y A k1, cG 3 x y y B k2] V p = if x ≤ p ∧ p < y then V + A + B else V := by
    rw [gvalV_yes hge, allG_two, cG_made, cG_made]
    split
    · show clip (clip (V + A) + B) = V + A + B
      rw [clip_id (x := V + A) (by omega) (by omega), clip_id (by omega) (by omega)]
    · rfl
  rw [hval, chkG_yes hge]
  have HB4 := Lib.hid (below_after HL.out.2.2 hb HL.out.2.2.size); clear hb hge hval HL HB3 HB2
  have uab : IntKind.i64.wrap (A + B) = A + B := wrap_id (by omega)
  generalize hX : (if x ≤ p ∧ p < y then V + A + B else V) = X
  have HX := Lib.hid hX
  clear hX
  go_wp2_with fail
  refine (const_any 3 x y y (A + B) _).mono ?_
  rintro e w5 ⟨⟨k3, rfl, hg3⟩, hb⟩
  have HB5 := Lib.hid (show _ ∧ _ from ⟨below_after HB4.out hb HB4.out.size, hg3⟩); clear hb hg3
  unfold encG cG
  dsimp only
  go_wp2_with fail
  have HL := Lib.hid (show _ ∧ _ ∧ _ from ⟨Gs.lit1 w5 (cG 3 x y y (A + B) k3) HB5.out.2, blk_new w5 (.cells #[.int .i64 3, .int .i64 x, .int .i64 y, .int .i64 y, .slice (some ⟨k3, 0, none⟩) 1 1] 38), HB5.out.1.alloc HB5.out.1.size (.cells #[.int .i64 3, .int .i64 x, .int .i64 y, .int .i64 y, .slice (some ⟨k3, 0, none⟩) 1 1] 38)⟩)
  refine (gvalue_any V p _ _ _ 1 1 _ _ HL.out.1 (fun _ => ⟨_, _, _, HL.out.2.1⟩) (by omega) HVW.out p1 p2).mono ?_; rintro e w6 ⟨rfl, hb⟩
  have hge := ges1 (trim_ok (k := k3) (A := A + B) x1 hxy hy2 (by omega) (by omega))
  have hval : gvalV [cG 3 x y y (A + B) k3] V p = X := by
    rw [gvalV_yes hge, allG_one, cG_made, ← HX.out]
    split
    · show clip (V + (A + B)) = V + A + B
      rw [clip_id (by omega) (by omega)]
      omega
    · rfl
  rw [hval, chkG_yes hge]
  have HB6 := Lib.hid (below_after HL.out.2.2 hb HL.out.2.2.size); clear hb hge hval HL HB5
  by_cases q1 : x ≤ p
  case neg =>
    obtain rfl : V = X := (if_neg (fun h => q1 h.1)).symm.trans HX.out
    go_wp2
    go_ret
    exact ⟨by simp, HB6.out⟩
  by_cases q2 : p < y
  case neg =>
    obtain rfl : V = X := (if_neg (fun h => q2 h.2)).symm.trans HX.out
    go_wp2
    go_ret
    exact ⟨by simp, HB6.out⟩
  have hXv : X = V + A + B := HX.out.symm.trans (if_pos ⟨q1, q2⟩)
  have hXb : (X == V + A + B) = true := by simpa using hXv
  have HXV := Lib.hid hXv
  clear hXv
  go_wp2
  go_ret
  exact ⟨by simp, HB6.out⟩
end Go.Proofs.Ytmblkmllamccnaa
