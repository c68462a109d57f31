/- The walk of SpeedParts (layer 26). -/
import Derived.Test.YtipjogicjgkgjaaSpLawSpec
import Derived.Test.YtipjogicjgkgjaaSpLawLen
import Derived.Test.YtipjogicjgkgjaaOwnRow
namespace Go.Proofs.Ytipjogicjgkgjaa
open Go.ChangeShapes Go.WideShapes Go.ChangeAt Go.RowKit

theorem Row.take {w : World} {a : Option Addr} {b off n : Nat} {l : List Int} (h : Row w a b off n l) {k : Nat} (hk : k ≤ n) : Row w a b off k (l.take k) :=
  ⟨by have := h.len; simp; omega, fun h0 => h.adr (by omega), fun h0 => h.old (by omega), fun i hi => by
    rw [h.cel i (by omega)]
    simp [List.getD_eq_getElem?_getD, hi]⟩
theorem lenV_up {n m : Nat} {a b : Int} (h : n ≤ m) (a1 : 1 ≤ a) (b1 : 1 ≤ b) : lenV n a b ≤ lenV m a b := by
  induction m with
  | zero => obtain rfl : n = 0 := by omega
            exact Int.le_refl _
  | succ m ih =>
    rcases Nat.lt_or_ge m n with g | g
    · obtain rfl : n = m + 1 := by omega
      exact Int.le_refl _
    · have h1 := lenV_mono (n := ((m + 1 : Nat) : Int)) (by omega) a1 b1
      rw [show ((m + 1 : Nat) : Int) - 1 = (m : Int) by omega] at h1
      exact Int.le_trans (ih g) h1
theorem getD_app {l l' : List Int} {q : Nat} (h : q < l.length) : (l ++ l').getD q 0 = l.getD q 0 := by
  simp [List.getD_eq_getElem?_getD, List.getElem?_append_left h]
theorem smpI_app {l l' : List Int} {a b : Int} {i : Nat} (a1 : 1 ≤ a) (b1 : 1 ≤ b) (hi : (i : Int) < lenV l.length a b) : smpI (l ++ l') a b i = smpI l a b i := by
  obtain ⟨q, hq, hqn, hq1, p0⟩ := place_ok a1 b1 hi
  unfold smpI
  rw [hq]
  unfold sV
  rw [show ((q : Int)).toNat = q from rfl, getD_app hqn]
  by_cases h : (i : Int) * a % b = 0
  · rw [if_pos h, if_pos h]
  · rw [if_neg h, if_neg h, getD_app (hq1 h)]
theorem cvRes_app {l l' : List Int} {n n' : Nat} {a b : Int} (hl : l.length = n) : (cvRes l n a b).length ≤ (cvRes (l ++ l') (n + n') a b).length ∧ (cvRes (l ++ l') (n + n') a b).take (cvRes l n a b).length = cvRes l n a b := by
  subst hl
  unfold cvRes
  by_cases h : Spd a b
  · rw [if_pos h, if_pos h, convL_len, convL_len]
    obtain ⟨⟨a1, a2⟩, ⟨b1, b2⟩, _⟩ := h
    have hu := lenV_up (n := l.length) (m := l.length + n') (a := a) (b := b) (by omega) a1 b1
    have hm : (lenV l.length a b).toNat ≤ (lenV ((l.length + n' : Nat) : Int) a b).toNat := by omega
    refine ⟨hm, ?_⟩
    apply List.ext_getElem?
    intro i
    rw [List.getElem?_take]
    unfold convL
    rw [List.getElem?_map, List.getElem?_map]
    by_cases hi : i < (lenV l.length a b).toNat
    · rw [if_pos hi, List.getElem?_range hi, List.getElem?_range (by omega)]
      simp only [Option.map_some, Option.some.injEq]
      exact smpI_app a1 b1 (by omega)
    · rw [if_neg hi, List.getElem?_eq_none (by simp; omega)]
      rfl
  · rw [if_neg h, if_neg h]
    simp

set_option maxRecDepth 100000 in
set_option maxHeartbeats 8000000 in
theorem speedParts_walk (a a' : Option Addr) (b b' off off' n n' cap cap' : Nat) (l l' : List Int) (aa bb : Int) (w : World) (hR : Row w a b off n l) (hR' : Row w a' b' off' n' l') (hnc : a = none → cap = 0) (hnc' : a' = none → cap' = 0) :
    Calls Try.prog 8 #[.slice a n cap, .slice a' n' cap', .int .i64 aa, .int .i64 bb] w fun e w' => e = .returned (.bool true) ∧ Below w.heap.size w w' := by
  have hB := Below.refl w.heap.size w
  have Ra := hR
  have Rb := hR'
  clear hR hR'
  go_enter Try.func8, Try.ntmps8
  go_wp2_with fail
  refine (sane_any _).mono ?_; rintro e w0 ⟨rfl, hb⟩
  replace Ra := Ra.below hb (Nat.le_refl _)
  replace Rb := Rb.below hb (Nat.le_refl _)
  replace hB := below_after hB hb hB.size
  clear hb
  by_cases hk : 60 < n
  · have hd : decide ((n : Int) ≤ 60) = false := decide_eq_false (by omega)
    go_wp2_with fail
    refine (few_any _ _ _ _).mono ?_; rintro e w' ⟨rfl, rfl⟩; rw [hd]
    go_wp2
    go_ret
    exact ⟨rfl, hB⟩
  have hd : decide ((n : Int) ≤ 60) = true := decide_eq_true (by omega)
  go_wp2_with fail
  refine (few_any _ _ _ _).mono ?_; rintro e w' ⟨rfl, rfl⟩; rw [hd]
  by_cases hk' : 60 < n'
  · have hd : decide ((n' : Int) ≤ 60) = false := decide_eq_false (by omega)
    go_wp2_with fail
    refine (few_any _ _ _ _).mono ?_; rintro e w' ⟨rfl, rfl⟩; rw [hd]
    go_wp2
    go_ret
    exact ⟨rfl, hB⟩
  have hd' : decide ((n' : Int) ≤ 60) = true := decide_eq_true (by omega)
  go_wp2_with fail
  refine (few_any _ _ _ _).mono ?_; rintro e w' ⟨rfl, rfl⟩; rw [hd']
  have hl := cvRes_len l (n := n) (a := aa) (b := bb) (by omega)
  have hl' := cvRes_len (l ++ l') (n := n + n') (a := aa) (b := bb) (by omega)
  obtain ⟨P1, P2⟩ := cvRes_app (l := l) (l' := l') (n := n) (n' := n') (a := aa) (b := bb) Ra.len
  go_wp2_with fail
  refine (convert_all _ b off _ _ l _ _ _ Ra (by omega)).mono ?_; rintro e w1 ⟨v4, rfl, hO, hb⟩
  obtain ⟨a4, b4, c4, rfl, R1, L1, M1⟩ := hO.row
  clear hO
  replace Ra := Ra.below hb (Nat.le_refl _)
  replace Rb := Rb.below hb (Nat.le_refl _)
  replace hB := below_after hB hb hB.size
  clear hb
  have HB := Lib.hid hB; clear hB
  have HNC := Lib.hid (show _ ∧ _ from ⟨hnc, hnc'⟩); clear hnc hnc'
  have HR := Lib.hid (show _ ∧ _ ∧ _ from ⟨Ra, Rb, R1⟩)
  have HL := Lib.hid (show _ ∧ _ from ⟨Ra.len, Rb.len⟩)
  have HP := Lib.hid P2; clear P2
  clear Ra Rb R1
  go_wp2_with (first
    | (at_builtin; refine wpList_append_row rfl (.tmp 31) (.tmp 32) rfl w1.heap.size _ [] rfl (Ints.empty w1) _ b off _ _ l rfl (HR.out.1.below ((Below.refl _ _).alloc (Nat.le_refl _) _) (Nat.le_refl _)) HNC.out.1 (by simp; omega) (by simp) ?_; intro v1 w2 hO1 hB1 hgx; clear hgx; have hC1 := ((Below.refl w1.heap.size w1).alloc (Nat.le_refl _) _).trans hB1; rw [List.nil_append] at hO1; have hs1 := hC1.size)
    | (at_builtin; refine wpList_append_row rfl (.tmp 33) (.tmp 34) rfl w1.heap.size _ l rfl hO1 _ b' off' _ _ l' rfl (HR.out.2.1.below hC1 (Nat.le_refl _)) HNC.out.2 (by rw [HL.out.1]; omega) hs1 ?_; intro v2 w3 hO2 hB2 hgx; clear hgx; have hC2 := hC1.trans hB2))
  have hO2' := hO2
  obtain ⟨a3, b3, c3, rfl, R3, -, -⟩ := hO2'.row
  have R1 := HR.out.2.2.below hC2 (Nat.le_refl _)
  have hB := below_after HB.out hC2 HB.out.size
  rw [List.length_append, HL.out.1, HL.out.2] at R3 ⊢
  clear hO1 hO2 hO2' hB1 hB2 hC1 hC2 hs1
  have HB2 := Lib.hid hB; clear hB
  go_wp2_with fail
  refine (convert_all _ b3 _ _ _ (l ++ l') _ _ _ R3 (by omega)).mono ?_; rintro e w5 ⟨v5, rfl, hO, hb⟩
  obtain ⟨a5, b5, c5, rfl, R2, L2, M2⟩ := hO.row
  replace R1 := R1.below hb (Nat.le_refl _)
  have hB := below_after HB2.out hb HB2.out.size
  clear hb R3
  have R4 := R2.take P1
  rw [HP.out] at R4
  rcases hO.2 with ⟨h0, hz⟩ | ⟨g, cp, cur, h1, -⟩
  · simp only [Value.slice.injEq] at h0
    obtain ⟨rfl, -, rfl⟩ := h0
    have hz0 : (cvRes l n aa bb).length = 0 := by omega
    rw [hz] at L2 ⊢
    rw [hz0] at R1 R4 ⊢
    clear hO R2
    go_wp2_with fail
    refine (same_any _ _ _ _ _ _ _ _ _ _ _ _ _ R1 R4 (by omega) (by omega) rfl).mono ?_; rintro e w6 ⟨rfl, hb⟩
    replace hB := below_after hB hb hB.size
    go_wp2
    go_ret
    exact ⟨rfl, hB⟩
  · simp only [Value.slice.injEq] at h1
    obtain ⟨rfl, -, rfl⟩ := h1
    clear hO R2
    go_wp2_with fail
    refine (same_any _ _ _ _ _ _ _ _ _ _ _ _ _ R1 R4 (by omega) (by omega) rfl).mono ?_; rintro e w6 ⟨rfl, hb⟩
    replace hB := below_after hB hb hB.size
    go_wp2
    go_ret
    exact ⟨rfl, hB⟩
end Go.Proofs.Ytipjogicjgkgjaa
