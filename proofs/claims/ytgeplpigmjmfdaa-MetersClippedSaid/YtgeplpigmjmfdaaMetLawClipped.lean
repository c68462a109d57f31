/- The walk of MetersClipped (layer 52). -/
import Derived.Test.YtgeplpigmjmfdaaMetLawSpec
namespace Go.Proofs.Ytgeplpigmjmfdaa
open Go.ChangeShapes Go.WideShapes Go.ChangeAt Go.RowKit

theorem clip_clip (x : Int) : clip (clip x) = clip x := by unfold clip; omega
theorem sq_clip (x : Int) : sq (clip x) = sq x := by unfold sq; rw [clip_clip]
theorem size_clip (x : Int) : sizeV (clip x) = sizeV x := by unfold sizeV; rw [clip_clip]
theorem clip_zero : clip 0 = 0 := by decide +kernel
theorem getD_clip (l : List Int) (k : Nat) : (l.map clip).getD k 0 = clip (l.getD k 0) := by
  simp only [List.getD_eq_getElem?_getD, List.getElem?_map]
  cases l[k]? with
  | none => simp [clip_zero]
  | some x => simp
theorem enV_clip (l : List Int) (k : Nat) : enV (l.map clip) k = enV l k := by
  induction k with
  | zero => rfl
  | succ k ih => simp only [enV]; rw [ih, getD_clip, sq_clip]
theorem peakV_clip (l : List Int) (k : Nat) : peakV (l.map clip) k = peakV l k := by
  induction k with
  | zero => rfl
  | succ k ih => simp only [peakV]; rw [ih, getD_clip, size_clip]
theorem holdY_clip (l : List Int) (f : Int) (k : Nat) : holdY (l.map clip) f k = holdY l f k := by
  induction k with
  | zero => rfl
  | succ k ih => simp only [holdY]; rw [ih, getD_clip, size_clip]
theorem holdRes_clip (l : List Int) (f : Int) (n : Nat) : holdRes (l.map clip) f n = holdRes l f n := by
  unfold holdRes holdL
  split
  · exact List.map_congr_left fun j _ => holdY_clip l f (j + 1)
  · rfl
theorem winV_clip (l : List Int) (p s : Nat) : winV (l.map clip) p s = winV l p s := by
  rw [winV_diff, winV_diff, enV_clip, enV_clip]
theorem winRes_clip (l : List Int) (s h : Int) (n : Nat) : winRes (l.map clip) s h n = winRes l s h n := by
  unfold winRes winL
  split
  · exact List.map_congr_left fun j _ => winV_clip l _ _
  · rfl
theorem take_succ_clip {l : List Int} {k : Nat} (h : k < l.length) : (l.map clip).take (k + 1) = (l.map clip).take k ++ [clip (l.getD k 0)] := by
  rw [List.take_add_one, List.getElem?_map]
  simp [List.getD_eq_getElem?_getD, h]

set_option maxHeartbeats 8000000 in
theorem metersClipped_walk (a : Option Addr) (b off n cap : Nat) (l : List Int) (s h f : Int) (w : World) (hR : Row w a b off n l) (s0 : 0 ≤ s) (s1 : s ≤ 65535) (h0 : 0 ≤ h) (h1 : h ≤ 65535) (f0 : 0 ≤ f) (f1 : f ≤ 65535) :
    Calls Try.prog 7 #[.slice a n cap, .int .u16 s, .int .u16 h, .int .u16 f] w fun e w' => e = .returned (.bool true) ∧ Below w.heap.size w w' := by
  have hB := Below.refl w.heap.size w
  have R0 := hR
  clear hR
  go_enter Try.func7, Try.ntmps7
  go_wp2_with fail
  refine (sane_any _).mono ?_; rintro e w1 ⟨rfl, hb⟩
  replace R0 := R0.below hb (Nat.le_refl _)
  replace hB := below_after hB hb hB.size
  clear hb
  by_cases hk : 300 < n
  · go_wp2
    go_ret
    exact ⟨rfl, hB⟩
  have hE : winE (1 + s) (1 + h) = 0 := if_pos ⟨⟨by omega, by omega⟩, by omega, by omega⟩
  have hF : holdE f = 0 := if_pos ⟨by omega, by omega⟩
  have wl := winRes_len l (1 + s) (1 + h) n
  have hl := holdRes_len l f n
  have HR := Lib.hid R0
  have HX := Lib.hid (show _ ∧ _ from ⟨hE, hF⟩)
  have HW := Lib.hid (show _ ∧ _ from ⟨wl, hl⟩)
  have HB := Lib.hid hB
  clear R0 hE hF wl hl hB
  go_wp2_with fail
  go_loopw [9, 31] (fun v i wr => ∃ k : Nat, k ≤ n ∧ i = .int .i64 k ∧ Ints wr w1.heap.size v ((l.map clip).take k) ∧ Below w1.heap.size w1 wr) (fun _ i _ => n - (intOf i).toNat)
  case atStart => exact ⟨0, Nat.zero_le _, rfl, Ints.nil _ _, Below.refl _ _⟩
  case round =>
    obtain ⟨k, hkn, rfl, hO, hB⟩ := hrel
    by_cases hlt : k < n
    · obtain rfl := HR.out.adr (by omega)
      have hcell := (HR.out.below hB (Nat.le_refl _)).cel k hlt
      have hs := hB.size
      have hT := take_succ_clip (l := l) (k := k) (by rw [HR.out.len]; exact hlt)
      generalize hx : l.getD k 0 = x at *
      have HX2 := Lib.hid (show _ ∧ _ ∧ _ from ⟨hx, hT, hB⟩); clear hx hT hB
      go_wp2_with (first | (go_at_call 18; refine (rclip_any _ _).mono ?_; rintro e w' ⟨rfl, rfl⟩) | (at_builtin; refine wpList_append_int rfl _ _ rfl w1.heap.size _ _ rfl (hO.alloc _) _ _ rfl _ _ (blk_new _ _) (by rw [List.length_take]; omega) (by simp; omega) ?_; intro v' w2 hO1 hB1 _))
      have HO1 := Lib.hid hO1; clear hO1
      go_roundw
      case rel => exact ⟨k + 1, by omega, by go_num, by rw [HX2.out.2.1]; exact HO1.out, (HX2.out.2.2.alloc hs _).trans hB1⟩
      case measure => simp [intOf]; omega
    · obtain rfl : k = n := by omega
      rw [List.take_of_length_le (by rw [List.length_map, HR.out.len]; exact Nat.le_refl _)] at hO
      have R0 := HR.out.below hB (Nat.le_refl _)
      obtain ⟨a2, b2, c2, rfl, RX, -, -⟩ := hO.row
      rw [List.length_map, HR.out.len] at RX
      rw [List.length_map, HR.out.len]
      replace hB := below_after HB.out hB HB.out.size
      obtain ⟨hE, hF⟩ := HX.out
      obtain ⟨wl, hl⟩ := HW.out
      clear hO
      go_wp2_with fail
      refine (energy_ok _ b off _ _ l _ R0 (by omega)).mono ?_; rintro e w' ⟨rfl, rfl⟩
      go_wp2_with fail
      refine (energy_ok _ _ _ _ _ (l.map clip) _ RX (by omega)).mono ?_; rintro e w' ⟨rfl, rfl⟩
      rw [enV_clip]
      go_wp2_with fail
      refine (windows_all _ b off _ _ (1 + s) (1 + h) l _ R0 (by omega)).mono ?_; rintro e w3 ⟨v3, rfl, hO, hb⟩
      obtain ⟨a3, b3, c3, rfl, R1, L3, M3⟩ := hO.row
      clear hO
      replace R0 := R0.below hb (Nat.le_refl _)
      replace RX := RX.below hb (Nat.le_refl _)
      replace hB := below_after hB hb hB.size
      clear hb
      rw [hE]
      go_wp2_with fail
      refine (windows_all _ _ _ _ _ (1 + s) (1 + h) (l.map clip) _ RX (by omega)).mono ?_; rintro e w4 ⟨v4, rfl, hO, hb⟩
      obtain ⟨a4, b4, c4, rfl, R2, L4, M4⟩ := hO.row
      clear hO
      replace R0 := R0.below hb (Nat.le_refl _)
      replace RX := RX.below hb (Nat.le_refl _)
      replace R1 := R1.below hb (Nat.le_refl _)
      replace hB := below_after hB hb hB.size
      clear hb
      rw [winRes_clip] at R2 L4
      rw [hE, winRes_clip]
      go_wp2_with fail
      refine (hold_all _ b off _ _ f l _ R0 (by omega)).mono ?_; rintro e w5 ⟨v5, rfl, hO, hb⟩
      obtain ⟨a5, b5, c5, rfl, R3, L5, M5⟩ := hO.row
      clear hO
      replace R0 := R0.below hb (Nat.le_refl _)
      replace RX := RX.below hb (Nat.le_refl _)
      replace R1 := R1.below hb (Nat.le_refl _)
      replace R2 := R2.below hb (Nat.le_refl _)
      replace hB := below_after hB hb hB.size
      clear hb
      rw [hF]
      go_wp2_with fail
      refine (hold_all _ _ _ _ _ f (l.map clip) _ RX (by omega)).mono ?_; rintro e w6 ⟨v6, rfl, hO, hb⟩
      obtain ⟨a6, b6, c6, rfl, R4, L6, M6⟩ := hO.row
      clear hO
      replace R0 := R0.below hb (Nat.le_refl _)
      replace RX := RX.below hb (Nat.le_refl _)
      replace R1 := R1.below hb (Nat.le_refl _)
      replace R2 := R2.below hb (Nat.le_refl _)
      replace R3 := R3.below hb (Nat.le_refl _)
      replace hB := below_after hB hb hB.size
      clear hb
      rw [holdRes_clip] at R4 L6
      rw [hF, holdRes_clip]
      go_wp2_with fail
      refine (same_any _ _ _ _ _ _ _ _ _ _ _ _ _ R1 R2 (by omega) (by omega) rfl).mono ?_; rintro e w7 ⟨rfl, hb⟩
      replace R0 := R0.below hb (Nat.le_refl _)
      replace RX := RX.below hb (Nat.le_refl _)
      replace R1 := R1.below hb (Nat.le_refl _)
      replace R2 := R2.below hb (Nat.le_refl _)
      replace R3 := R3.below hb (Nat.le_refl _)
      replace R4 := R4.below hb (Nat.le_refl _)
      replace hB := below_after hB hb hB.size
      clear hb
      go_wp2_with fail
      refine (same_any _ _ _ _ _ _ _ _ _ _ _ _ _ R3 R4 (by omega) (by omega) rfl).mono ?_; rintro e w8 ⟨rfl, hb⟩
      replace R0 := R0.below hb (Nat.le_refl _)
      replace RX := RX.below hb (Nat.le_refl _)
      replace R1 := R1.below hb (Nat.le_refl _)
      replace R2 := R2.below hb (Nat.le_refl _)
      replace R3 := R3.below hb (Nat.le_refl _)
      replace R4 := R4.below hb (Nat.le_refl _)
      replace hB := below_after hB hb hB.size
      clear hb
      go_wp2_with fail
      refine (peak_any _ b off _ _ l _ R0 (by omega)).mono ?_; rintro e w9 ⟨rfl, hb⟩
      replace R0 := R0.below hb (Nat.le_refl _)
      replace RX := RX.below hb (Nat.le_refl _)
      replace R1 := R1.below hb (Nat.le_refl _)
      replace R2 := R2.below hb (Nat.le_refl _)
      replace R3 := R3.below hb (Nat.le_refl _)
      replace R4 := R4.below hb (Nat.le_refl _)
      replace hB := below_after hB hb hB.size
      clear hb
      go_wp2_with fail
      refine (peak_any _ _ _ _ _ (l.map clip) _ RX (by omega)).mono ?_; rintro e w10 ⟨rfl, hb⟩
      rw [peakV_clip]
      replace R0 := R0.below hb (Nat.le_refl _)
      replace RX := RX.below hb (Nat.le_refl _)
      replace R1 := R1.below hb (Nat.le_refl _)
      replace R2 := R2.below hb (Nat.le_refl _)
      replace R3 := R3.below hb (Nat.le_refl _)
      replace R4 := R4.below hb (Nat.le_refl _)
      replace hB := below_after hB hb hB.size
      clear hb
      go_wp2_with fail
      go_ret
      exact ⟨rfl, hB⟩
end Go.Proofs.Ytgeplpigmjmfdaa
