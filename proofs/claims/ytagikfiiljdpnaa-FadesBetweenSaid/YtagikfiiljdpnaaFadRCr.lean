/- Cross when it fails; the reference's Cross (layer 27). -/
import Derived.Test.YtagikfiiljdpnaaFadCr
import Derived.Deep.Cut
namespace Go.Proofs.Ytagikfiiljdpnaa
open Go.ChangeShapes Go.WideShapes Go.ChangeAt Go.RowKit

theorem cross_no (a b : Option Addr) (an ac bn bc : Nat) (n : Int) (w : World) (h : ¬ (FOk an n ∧ FOk bn n)) :
    Calls Try.prog 19 #[.slice a an ac, .slice b bn bc, .int .i64 n] w fun e w' => e = .returned (.tuple #[.slice none 0 0, .int .i64 1]) ∧ Below w.heap.size w w' := by
  have hB : Below w.heap.size w (((w.alloc (.cells #[.slice a an ac] 27)).alloc (.cells #[.slice b bn bc] 27)).alloc (.cells #[.int .i64 n] 3)) := by go_grown
  by_cases h1 : FOk an n
  · have hf1 : decide (FOk an n) = true := decide_eq_true h1
    have hf2 : decide (FOk bn n) = false := decide_eq_false fun h2 => h ⟨h1, h2⟩
    clear h h1
    go_enter Try.func19, Try.ntmps19
    go_wp2_with fail
    refine (fits_any _ _ _ _ _).mono ?_; rintro e w' ⟨rfl, rfl⟩; rw [hf1]
    go_wp2_with fail
    refine (fits_any _ _ _ _ _).mono ?_; rintro e w' ⟨rfl, rfl⟩; rw [hf2]
    go_wp2
    go_ret2
    exact ⟨rfl, hB⟩
  · have hf1 : decide (FOk an n) = false := decide_eq_false h1
    clear h h1
    go_enter Try.func19, Try.ntmps19
    go_wp2_with fail
    refine (fits_any _ _ _ _ _).mono ?_; rintro e w' ⟨rfl, rfl⟩; rw [hf1]
    go_wp2
    go_ret2
    exact ⟨rfl, hB⟩

theorem rcross_no (a b : Option Addr) (an ac bn bc : Nat) (n : Int) (w : World) (h : ¬ (FOk an n ∧ FOk bn n)) :
    Calls Try.prog 20 #[.slice a an ac, .slice b bn bc, .int .i64 n] w fun e w' => e = .returned (.tuple #[.slice none 0 0, .int .i64 1]) ∧ w = w' := by
  by_cases h1 : FOk an n
  · have hf1 : decide (FOk an n) = true := decide_eq_true h1
    have hf2 : decide (FOk bn n) = false := decide_eq_false fun h2 => h ⟨h1, h2⟩
    clear h h1
    go_enter Try.func20, Try.ntmps20
    go_wp2_with fail
    refine (rlong_any _ _ _ _ _).mono ?_; rintro e w' ⟨rfl, rfl⟩; rw [hf1]
    go_wp2_with fail
    refine (rlong_any _ _ _ _ _).mono ?_; rintro e w' ⟨rfl, rfl⟩; rw [hf2]
    go_wp2
    go_ret2
    exact ⟨rfl, rfl⟩
  · have hf1 : decide (FOk an n) = false := decide_eq_false h1
    clear h h1
    go_enter Try.func20, Try.ntmps20
    go_wp2_with fail
    refine (rlong_any _ _ _ _ _).mono ?_; rintro e w' ⟨rfl, rfl⟩; rw [hf1]
    go_wp2
    go_ret2
    exact ⟨rfl, rfl⟩

set_option maxHeartbeats 1000000 in
theorem rcross_nil (b : Option Addr) (bb bo bn bc : Nat) (lb : List Int) (w : World) (hRb : Row w b bb bo bn lb) (hn : bn ≤ 1000000) (hbc : bn ≤ bc) (hnb : b = none → bc = 0) :
    Calls Try.prog 20 #[.slice none 0 0, .slice b bn bc, .int .i64 0] w fun e w' => ∃ v, e = .returned (.tuple #[v, .int .i64 0]) ∧ Ints w' w.heap.size v lb ∧ Below w.heap.size w w' := by
  have HL := Lib.hid hRb.len
  have HR := Lib.hid hRb; clear hRb
  have hf1 : decide (FOk (0 : Nat) 0) = true := decide_eq_true ⟨by omega, by omega, by omega⟩
  have hf2 : decide (FOk bn 0) = true := decide_eq_true ⟨by omega, by omega, by omega⟩
  go_enter Try.func20, Try.ntmps20
  go_wp2_with fail
  refine (rlong_any _ _ _ _ _).mono ?_; rintro e w' ⟨rfl, rfl⟩; rw [hf1]
  go_wp2_with fail
  refine (rlong_any _ _ _ _ _).mono ?_; rintro e w' ⟨rfl, rfl⟩; rw [hf2]
  go_wp2_with (at_builtin; refine wpList_append_row rfl (.tmp 25) (.tmp 28) rfl w.heap.size _ [] rfl (Ints.empty w) none 0 0 0 0 [] rfl (Row.zero _ none) (fun _ => rfl) (by simp) (by simp) ?_; intro v1 w3 hO1 hB1 hgx; clear hgx; have hC1 := ((Below.refl w.heap.size w).alloc (Nat.le_refl _) _).trans hB1; rw [List.nil_append] at hO1)
  go_loopw [9, 10] (fun v i wr => i = .int .i64 0 ∧ Ints wr w.heap.size v [] ∧ Below w.heap.size w wr) (fun _ _ _ => 0)
  case atStart => exact ⟨rfl, hO1, hC1⟩
  case round =>
    obtain ⟨rfl, hO, hB⟩ := hrel
    clear hO1 hB1 hC1
    have hs := hB.size
    rcases (show (b = none ∧ bn = 0 ∧ bc = 0) ∨ ∃ p, b = some p by
      cases b with
      | none => exact .inl ⟨rfl, by have := hnb rfl; omega, hnb rfl⟩
      | some p => exact .inr ⟨p, rfl⟩) with ⟨rfl, rfl, rfl⟩ | ⟨p, rfl⟩
    all_goals
      go_wp2_with (at_builtin; refine wpList_append_row rfl (.tmp 62) (.tmp 65) rfl w.heap.size _ [] rfl hO _ bb bo _ _ lb rfl (HR.out.below hB (Nat.le_refl _)) hnb (by simp <;> omega) hs ?_; intro v' w4 hO4 hB4 hgx; clear hgx; rw [List.nil_append] at hO4)
      go_ret2
      exact ⟨_, rfl, hO4, hB.trans hB4⟩

set_option maxHeartbeats 1000000 in
theorem rcross_some (p : Addr) (b : Option Addr) (ab ao bb bo an bn ac bc M : Nat) (la lb : List Int) (w : World) (hRa : Row w (some p) ab ao an la) (hRb : Row w b bb bo bn lb) (hM : M ≤ an) (hM2 : M ≤ bn) (hn : an + bn ≤ 1000000) (hac : an ≤ ac) (hbc : bn ≤ bc) (hnb : b = none → bc = 0) :
    Calls Try.prog 20 #[.slice (some p) an ac, .slice b bn bc, .int .i64 M] w fun e w' => ∃ v, e = .returned (.tuple #[v, .int .i64 0]) ∧ Ints w' w.heap.size v (crossL la lb (an - M) M) ∧ Below w.heap.size w w' := by
  have HLA := Lib.hid (show _ ∧ _ from ⟨hRa.len, hRb.len⟩)
  have HR := Lib.hid (show _ ∧ _ from ⟨hRa, hRb⟩); clear hRa hRb
  have hf1 : decide (FOk an M) = true := decide_eq_true ⟨by omega, by omega, by omega⟩
  have hf2 : decide (FOk bn M) = true := decide_eq_true ⟨by omega, by omega, by omega⟩
  obtain ⟨st, hst⟩ : ∃ st, st = an - M := ⟨_, rfl⟩
  have z1 : IntKind.i64.wrap ((an : Int) - (M : Int)) = (st : Int) := by rw [IntKind.wrap_i64]; omega
  have z2 : (an : Int) - (M : Int) = (st : Int) := by omega
  have HST := Lib.hid hst; clear hst
  go_enter Try.func20, Try.ntmps20
  go_wp2_with fail
  refine (rlong_any _ _ _ _ _).mono ?_; rintro e w' ⟨rfl, rfl⟩; rw [hf1]
  go_wp2_with fail
  refine (rlong_any _ _ _ _ _).mono ?_; rintro e w' ⟨rfl, rfl⟩; rw [hf2]
  have hr2 : Row w (some p) ab ao st (la.take st) := HR.out.1.pre (by have := HST.out; omega)
  have HR2 := Lib.hid hr2; clear hr2
  have hLt : (la.take st).length = st := by rw [List.length_take, HLA.out.1]; have := HST.out; omega
  have HLt := Lib.hid hLt; clear hLt
  go_wp2_with (at_builtin; refine wpList_append_row rfl (.tmp 25) (.tmp 28) rfl w.heap.size _ [] rfl (Ints.empty w) _ ab ao _ _ (la.take st) rfl (HR2.out.below ((Below.refl _ _).alloc (Nat.le_refl _) _) (Nat.le_refl _)) (fun h => by cases h) (by simp; have := HST.out; omega) (by simp) ?_; intro v1 w3 hO1 hB1 hgx; clear hgx; have hC1 := ((Below.refl w.heap.size w).alloc (Nat.le_refl _) _).trans hB1; rw [List.nil_append] at hO1)
  go_loopw [9, 10] (fun v i wr => ∃ k : Nat, k ≤ M ∧ i = .int .i64 k ∧ Ints wr w.heap.size v (la.take st ++ (List.range k).map (mixL la lb st M)) ∧ Below w.heap.size w wr) (fun _ i _ => M - (intOf i).toNat)
  case atStart => exact ⟨0, Nat.zero_le _, rfl, by rw [List.range_zero, List.map_nil, List.append_nil]; exact hO1, hC1⟩
  case round =>
    obtain ⟨k, hk, rfl, hO, hB⟩ := hrel
    by_cases hlt : k < M
    · have he := HR.out.1.adr (by omega)
      cases he
      obtain rfl := HR.out.2.adr (by omega)
      have hsk : st + k < an := by have := HST.out; omega
      have ca := (HR.out.1.below hB (Nat.le_refl _)).cel (st + k) hsk
      have cb := (HR.out.2.below hB (Nat.le_refl _)).cel k (by omega)
      have hs := hB.size
      have hT : la.take st ++ (List.range (k + 1)).map (mixL la lb st M) = (la.take st ++ (List.range k).map (mixL la lb st M)) ++ [mixV (la.getD (st + k) 0) (lb.getD k 0) k M] := by
        rw [List.range_succ, List.map_append, ← List.append_assoc]
        rfl
      have hlen : (la.take st ++ (List.range k).map (mixL la lb st M)).length = st + k := by rw [List.length_append, HLt.out]; simp
      have HT := Lib.hid (show _ ∧ _ from ⟨hT, hlen⟩); clear hT hlen
      unfold mixV at HT
      generalize la.take st ++ (List.range k).map (mixL la lb st M) = LL at *
      generalize la.getD (st + k) 0 = x at *
      generalize lb.getD k 0 = y at *
      have HB := Lib.hid hB; clear hB hO1 hB1 hC1
      obtain ⟨p, hp⟩ : ∃ p, p = st + k := ⟨_, rfl⟩
      obtain ⟨q, hq⟩ : ∃ q, q = M - 1 - k := ⟨_, rfl⟩
      have z3 : IntKind.i64.wrap ((st : Int) + (k : Int)) = (p : Int) := by rw [IntKind.wrap_i64]; omega
      have z4 : (st : Int) + (k : Int) = (p : Int) := by omega
      have z5 : IntKind.i64.wrap ((M : Int) - 1 - (k : Int)) = (q : Int) := by rw [IntKind.wrap_i64]; omega
      have z6 : (M : Int) - 1 - (k : Int) = (q : Int) := by omega
      have z7 : IntKind.i64.wrap ((M : Int) - 1) = (M : Int) - 1 := by rw [IntKind.wrap_i64]; omega
      have z8 : IntKind.i64.wrap (p : Int) = (p : Int) := by rw [IntKind.wrap_i64]; omega
      have z9 : IntKind.i64.wrap (q : Int) = (q : Int) := by rw [IntKind.wrap_i64]; omega
      have y1 : (0 : Int) ≤ (q : Int) := by omega
      have y2 : (q : Int) < (M : Int) := by omega
      have y3 : (M : Int) ≤ 16777216 := by omega
      have y4 : (0 : Int) ≤ (k : Int) := by omega
      have y5 : (k : Int) < (M : Int) := by omega
      have y6 : (p : Int) < (an : Int) := by omega
      have y7 : (k : Int) < (bn : Int) := by omega
      rw [← hp] at ca HT
      rw [← hq] at HT
      have HPQ := Lib.hid (show _ ∧ _ from ⟨hp, hq⟩); clear hp hq
      go_wp2_with fail
      go_still_tail 13, (by kernel_rfl)
      repeat still_step
      still_call (rgain_same _ _ _ y1 y2 y3)
      repeat still_step
      still_call (rmul_same _ _ _)
      repeat still_step
      refine wpStill_nil ?_
      have cb2 : wr.drew.cell? ⟨bb, bo + k, none⟩ = some (.int .i64 y) := cb
      have hO2 := hO.drew
      have hB2 := HB.out.drew
      have hs2 : w.heap.size ≤ wr.drew.heap.size := hs
      have HB2 := Lib.hid hB2
      clear hO ca cb hB2
      show wpList _ _ _ _ _ wr.drew
      generalize wr.drew = w2 at *
      go_wp2
      go_still_tail 8, (by kernel_rfl)
      repeat still_step
      still_call (rgain_same _ _ _ y4 y5 y3)
      repeat still_step
      still_call (rmul_same _ _ _)
      repeat still_step
      refine wpStill_nil ?_
      go_wp2_with (first | (go_at_call 36; refine (radd_same _ _ _ (gmul_lo _ _) (gmul_hi _ _) (gmul_lo _ _) (gmul_hi _ _)).mono ?_; rintro e w' ⟨rfl, rfl⟩) | (at_builtin; refine wpList_append_int rfl _ _ rfl w.heap.size _ _ rfl ((hO2.drew).alloc _) _ _ rfl _ _ (blk_new _ _) (by rw [HT.out.2]; omega) (by simp; omega) ?_; intro v' w4 hO4 hB4 hgx; clear hgx))
      have HO4 := Lib.hid hO4; clear hO4
      go_roundw
      case rel => exact ⟨k + 1, by omega, by go_num, by rw [HT.out.1]; exact HO4.out, ((HB2.out.drew).alloc (by exact hs2) _).trans hB4⟩
      case measure => simp [intOf]; omega
    · obtain rfl : k = M := by omega
      obtain ⟨a3, c3, b3, o3, hV3, hr3⟩ := cut_post (M := k) (HR.out.2.below hB (Nat.le_refl _)) hnb hbc (by omega)
      have HR3 := Lib.hid hr3; clear hr3
      have hs := hB.size
      have hlen : (la.take st ++ (List.range k).map (mixL la lb st k)).length = st + k := by rw [List.length_append, HLt.out]; simp
      have hcr : la.take st ++ (List.range k).map (mixL la lb st k) ++ lb.drop k = crossL la lb (an - k) k := by rw [← HST.out]; rfl
      have HCR := Lib.hid (show _ ∧ _ from ⟨hcr, hlen⟩); clear hcr hlen
      generalize la.take st ++ (List.range k).map (mixL la lb st k) = LL at *
      have hst2 : st + k = an := by have := HST.out; omega
      have hq1 : (k : Int) ≤ (bn : Int) := by omega
      clear hO1 hB1 hC1
      rcases hV3 with ⟨rfl, rfl, rfl, rfl, rfl, rfl⟩ | ⟨p3, rfl, rfl, rfl, rfl, rfl⟩ | ⟨p3, rfl, hm1, rfl, rfl⟩
      all_goals
        go_wp2_with (at_builtin; refine wpList_append_row rfl (.tmp 62) (.tmp 65) rfl w.heap.size _ LL rfl hO _ b3 o3 _ _ (lb.drop _) rfl (by first | exact HR3.out | (have h := HR3.out; rw [Nat.sub_self] at h; exact h)) (by first | (intro _; rfl) | (intro h; cases h)) (by rw [HCR.out.2]; omega) hs ?_; intro v' w4 hO4 hB4 hgx; clear hgx; rw [HCR.out.1] at hO4)
        go_ret2
        exact ⟨_, rfl, hO4, hB.trans hB4⟩
end Go.Proofs.Ytagikfiiljdpnaa
