/- links.Check (layer 13). -/
import Derived.Test.YthncfhfnboocmaaLnkAll
namespace Go.Proofs.Ythncfhfnboocmaa
open Go.ChangeShapes Go.WideShapes Go.ChangeAt Go.RowKit

noncomputable def chkL (m : Int) (l : List Jt) : Int := by
  classical exact if ¬ (0 ≤ m ∧ m ≤ 256) then 1 else if 256 < l.length then 2 else if ¬ (okJs m l l.length ∧ apart l l.length) then 130 else if ¬ ends1 l then 131 else 0
theorem chkL_arg {m : Int} {l : List Jt} (h : ¬ (0 ≤ m ∧ m ≤ 256)) : chkL m l = 1 := if_pos h
theorem chkL_limit {m : Int} {l : List Jt} (h : 0 ≤ m ∧ m ≤ 256) (h1 : 256 < l.length) : chkL m l = 2 := by unfold chkL; rw [if_neg (fun g => g h), if_pos h1]
theorem chkL_link {m : Int} {l : List Jt} (h : 0 ≤ m ∧ m ≤ 256) (h1 : ¬ 256 < l.length) (h2 : ¬ (okJs m l l.length ∧ apart l l.length)) : chkL m l = 130 := by unfold chkL; rw [if_neg (fun g => g h), if_neg h1, if_pos h2]
theorem chkL_circ {m : Int} {l : List Jt} (h : 0 ≤ m ∧ m ≤ 256) (h1 : ¬ 256 < l.length) (h2 : okJs m l l.length ∧ apart l l.length) (h3 : ¬ ends1 l) : chkL m l = 131 := by unfold chkL; rw [if_neg (fun g => g h), if_neg h1, if_neg (fun g => g h2), if_pos h3]
theorem chkL_ok {m : Int} {l : List Jt} (h : 0 ≤ m ∧ m ≤ 256) (h1 : ¬ 256 < l.length) (h2 : okJs m l l.length ∧ apart l l.length) (h3 : ends1 l) : chkL m l = 0 := by unfold chkL; rw [if_neg (fun g => g h), if_neg h1, if_neg (fun g => g h2), if_neg (fun g => g h3)]
theorem chkL_inv {m : Int} {l : List Jt} (h : chkL m l = 0) : (0 ≤ m ∧ m ≤ 256) ∧ ¬ 256 < l.length ∧ (okJs m l l.length ∧ apart l l.length) ∧ ends1 l := by
  by_cases a : 0 ≤ m ∧ m ≤ 256
  · by_cases b : 256 < l.length
    · rw [chkL_limit a b] at h; omega
    · by_cases c : okJs m l l.length ∧ apart l l.length
      · by_cases d : ends1 l
        · exact ⟨a, b, c, d⟩
        · rw [chkL_circ a b c d] at h; omega
      · rw [chkL_link a b c] at h; omega
  · rw [chkL_arg a] at h; omega

set_option maxRecDepth 100000 in
set_option maxHeartbeats 8000000 in
theorem lkCheck (m : Int) (a : Option Addr) (b off n cap : Nat) (l : List Jt) (w : World) (h : Js w a n b off l) (hn : n ≤ 9223372036854775807) (hwl : ∀ i, i < n → wfJ (nthJ l i)) :
    Calls Try.prog 11 #[.int .i64 m, .slice a n cap] w fun e w' => e = .returned (.int .i64 (chkL m l)) ∧ Below w.heap.size w w' := by
  have hl := h.1
  have hB0 := ((Below.refl w.heap.size w).alloc (Nat.le_refl _) (.cells #[.int .i64 m] 3)).alloc (by simp) (.cells #[.slice a n cap] 22)
  have HK := Lib.hid (show _ ∧ _ ∧ _ from ⟨h, hwl, hB0⟩)
  clear h hwl hB0
  by_cases hA : 0 ≤ m ∧ m ≤ 256
  case neg =>
    have EB := Lib.hid (chkL_arg (l := l) hA)
    have v1 := within_f hA
    clear hA
    go_enter Try.func11, Try.ntmps11
    go_wp2_with (go_at_call 20; refine (within_any _ _ _ _).mono ?_; rintro e' w' ⟨rfl, rfl⟩)
    go_ret
    exact ⟨by rw [EB.out]; rfl, HK.out.2.2⟩
  have v1 := within_t hA
  by_cases hn2 : n ≤ 256
  case neg =>
    have EB := Lib.hid (chkL_limit (l := l) hA (by omega))
    have i2 : ¬ (n : Int) ≤ 256 := by omega
    have i3 : (256 : Int) < (n : Int) := by omega
    clear hA
    go_enter Try.func11, Try.ntmps11
    go_wp2_with (go_at_call 20; refine (within_any _ _ _ _).mono ?_; rintro e' w' ⟨rfl, rfl⟩)
    go_ret
    exact ⟨by rw [EB.out]; rfl, HK.out.2.2⟩
  have i2 : (n : Int) ≤ 256 := by omega
  have i3 : ¬ (256 : Int) < (n : Int) := by omega
  have HA := Lib.hid (show _ ∧ _ from ⟨hA, (by omega : ¬ 256 < l.length)⟩)
  clear hA
  go_enter Try.func11, Try.ntmps11
  go_wp2_with fail
  refine (within_any _ _ _ _).mono ?_; rintro e w' ⟨rfl, rfl⟩
  rw [v1]
  go_wp2_with fail
  refine (lkSources a b off n cap l _ (HK.out.1.grown HK.out.2.2) (by omega) HK.out.2.1).mono ?_; rintro e w1 ⟨⟨mb, hmb, rfl, hown⟩, hB1⟩
  have z1 := hB1.size
  simp at z1
  have hB2 := (below_after HK.out.2.2 hB1 (by simp; omega)).alloc (by omega) (.cells #[.map (some mb)] 43)
  have hX := blk_alloc (blk_below (blk_alloc (blk_new w (.cells #[.int .i64 m] 3)) (.cells #[.slice a n cap] 22)) hB1 (by simp; omega)) (.cells #[.map (some mb)] 43)
  have hL := blk_alloc (blk_below (blk_new (w.alloc (.cells #[.int .i64 m] 3)) (.cells #[.slice a n cap] 22)) hB1 (by simp)) (.cells #[.map (some mb)] 43)
  have hS := blk_new w1 (.cells #[.map (some mb)] 43)
  have hown2 := hown.alloc (.cells #[.map (some mb)] 43)
  rw [World.size_alloc] at hL
  have cL := blk_cell hL 0
  simp at cL
  have H3 := Lib.hid (show _ ∧ _ ∧ _ ∧ _ ∧ _ from ⟨hX, hL, hS, hown2, hB2⟩)
  clear hX hL hS hown hown2 hB1 hB2
  go_wp2_with fail
  refine (all_formed w.heap.size m a b off n cap l _ (HK.out.1.grown H3.out.2.2.2.2) hn2 H3.out.1 HA.out.1.1 HA.out.1.2).mono ?_; rintro e w2 ⟨rfl, hB⟩
  have z2 := hB.size
  simp at z2
  have cL2 := (hB.cell (p := ⟨w.heap.size + 1, 0, none⟩) (by simp; omega)).trans cL
  have cS2 := blk_cell (blk_below H3.out.2.2.1 hB (by simp)) 0
  simp at cS2
  have hB3 := below_after H3.out.2.2.2.2 hB (by simp; omega)
  have H4 := Lib.hid (show _ ∧ _ ∧ _ ∧ _ from ⟨blk_below H3.out.2.1 hB (by simp; omega), blk_below H3.out.2.2.1 hB (by simp), ownsMap_below H3.out.2.2.2.1 hB H3.out.2.2.2.1.lt, hB3⟩)
  have hlen := fun ty => H4.out.2.2.1.len Try.underlying43 ty
  clear cL hB hB3
  by_cases hC : okJs m l n
  case neg =>
    have EB := Lib.hid (chkL_link (l := l) HA.out.1 HA.out.2 (fun g => hC (by rw [hl] at g; exact g.1)))
    rw [allOkB_f hC]
    clear hC hlen
    go_wp2
    go_ret
    exact ⟨by rw [EB.out]; rfl, H4.out.2.2.2⟩
  rw [allOkB_t hC]
  by_cases hD : apart l n
  case neg =>
    have EB := Lib.hid (chkL_link (l := l) HA.out.1 HA.out.2 (fun g => hD (by rw [hl] at g; exact g.2)))
    have hne : ((Maps.size (mapJ l n) : Nat) : Int) ≠ (n : Int) := fun e => hD ((mapJ_size l n).1 (by omega))
    have hle := mapJ_le l n
    generalize Maps.size (mapJ l n) = s at *
    clear hC hD
    go_wp2
    go_ret
    exact ⟨by rw [EB.out]; rfl, H4.out.2.2.2⟩
  have es := (mapJ_size l n).2 hD
  rw [es] at hlen
  have HD := Lib.hid (show _ ∧ _ from ⟨(by rw [hl]; exact ⟨hC, hD⟩ : okJs m l l.length ∧ apart l l.length), es⟩)
  clear hC hD es
  go_wp2_with fail
  refine (all_ends (w.heap.size + 1) w1.heap.size mb a cap a b off n cap l _ (HK.out.1.grown H4.out.2.2.2) hn2 H4.out.1 H4.out.2.1 H4.out.2.2.1 HK.out.2.1).mono ?_; rintro e w3 ⟨rfl, hB⟩
  have hB4 := below_after H4.out.2.2.2 hB (by omega)
  clear hB
  by_cases hE : ends1 l
  case neg =>
    have EB := Lib.hid (chkL_circ HA.out.1 HA.out.2 HD.out.1 hE)
    rw [allEndB_f hE]
    clear hE hlen
    go_wp2
    go_ret
    exact ⟨by rw [EB.out]; rfl, hB4⟩
  have EB := Lib.hid (chkL_ok HA.out.1 HA.out.2 HD.out.1 hE)
  rw [allEndB_t hE]
  clear hE hlen
  go_wp2
  go_ret
  exact ⟨by rw [EB.out]; rfl, hB4⟩
end Go.Proofs.Ythncfhfnboocmaa
