/- Metres in memory; the contracts of both Checks (layer 10). -/
import Derived.Test.YtkgimglkiniofaaWithin
namespace Go.Proofs.Ytkgimglkiniofaa
open Go.ChangeShapes Go.WideShapes Go.ChangeAt Go.RowKit

/-- A change: its bar, its beats, its unit. -/
abbrev Mt := Int × Int × Int
def nthM (l : List Mt) (i : Nat) : Mt := l.getD i (0, 0, 0)
/-- The slice leads to the changes l. -/
def Ms (w : World) (a : Option Addr) (n : Nat) (b off : Nat) (l : List Mt) : Prop :=
  l.length = n ∧ (0 < n → a = some ⟨b, off, none⟩ ∧ b < w.heap.size) ∧
  ∀ i, i < n → w.cell? ⟨b, off + i * 3, none⟩ = some (.int .i64 (nthM l i).1) ∧ w.cell? ⟨b, off + i * 3 + 1, none⟩ = some (.int .i64 (nthM l i).2.1) ∧ w.cell? ⟨b, off + i * 3 + 2, none⟩ = some (.int .i64 (nthM l i).2.2)
theorem Ms.below {B : Nat} {w w' : World} {a : Option Addr} {n b off : Nat} {l : List Mt} (h : Ms w a n b off l) (hb : Below B w w') (hB : b < B) : Ms w' a n b off l :=
  ⟨h.1, fun k => ⟨(h.2.1 k).1, Nat.lt_of_lt_of_le (h.2.1 k).2 hb.size⟩, fun i hi => by
    obtain ⟨h1, h2, h3⟩ := h.2.2 i hi
    exact ⟨(hb.cell (p := ⟨b, _, none⟩) hB).trans h1, (hb.cell (p := ⟨b, _, none⟩) hB).trans h2, (hb.cell (p := ⟨b, _, none⟩) hB).trans h3⟩⟩

def okM (m : Mt) : Prop := 0 ≤ m.1 ∧ m.1 ≤ 1048576 ∧ 1 ≤ m.2.1 ∧ m.2.1 ≤ 32 ∧ 1 ≤ m.2.2 ∧ m.2.2 ≤ 65536
instance (m : Mt) : Decidable (okM m) := by unfold okM; infer_instance
/-- The first k changes are in order. -/
def okTo (l : List Mt) (k : Nat) : Prop := ∀ i, i < k → okM (nthM l i) ∧ (0 < i → (nthM l (i - 1)).1 < (nthM l i).1)
def Changes (l : List Mt) : Prop := 1 ≤ l.length ∧ l.length ≤ 64 ∧ (nthM l 0).1 = 0 ∧ okTo l l.length
theorem okTo_succ (l : List Mt) (k : Nat) : okTo l (k + 1) ↔ okTo l k ∧ okM (nthM l k) ∧ (0 < k → (nthM l (k - 1)).1 < (nthM l k).1) := by
  constructor
  · intro h; exact ⟨fun i hi => h i (by omega), h k (by omega)⟩
  · rintro ⟨h, h2⟩ i hi
    by_cases e : i = k
    · subst e; exact h2
    · exact h i (by omega)
theorem okTo_mono {l : List Mt} {j k : Nat} (h : okTo l k) (hj : j ≤ k) : okTo l j := fun i hi => h i (by omega)
noncomputable def chk (l : List Mt) : Int := by classical exact if Changes l then 0 else 100
theorem chk_yes {l : List Mt} (h : Changes l) : chk l = 0 := if_pos h
theorem chk_no {l : List Mt} (h : ¬ Changes l) : chk l = 100 := if_neg h

set_option maxHeartbeats 1000000 in
theorem mcheck_any (a : Option Addr) (n cap b off : Nat) (l : List Mt) (w : World) (h : Ms w a n b off l) (hn : n ≤ 9223372036854775807) :
    Calls Try.prog 13 #[.slice a n cap] w fun e w' => e = .returned (.int .i64 (chk l)) ∧ Below w.heap.size w w' := by
  obtain ⟨hl, ha, hc⟩ := h
  have HC := Lib.hid hc; clear hc
  by_cases hn1 : n < 1
  · have e : chk l = 100 := chk_no fun k => by have := k.1; omega
    rw [e]
    go_enter Try.func13, Try.ntmps13
    go_wp2
    go_ret
    exact ⟨rfl, Below.refl _ _⟩
  · by_cases hn2 : 64 < n
    · have e : chk l = 100 := chk_no fun k => by have := k.2.1; omega
      rw [e]
      go_enter Try.func13, Try.ntmps13
      go_wp2
      go_ret
      exact ⟨rfl, Below.refl _ _⟩
    · obtain ⟨rfl, hbw⟩ := ha (by omega)
      obtain ⟨c0, c1, c2⟩ := HC.out 0 (by omega)
      simp only [Nat.zero_mul, Nat.add_zero] at c0 c1 c2
      by_cases h0 : (nthM l 0).1 = 0
      · have h0' : ((nthM l 0).1 != 0) = false := by simpa using h0
        have H0 := Lib.hid h0; have HL := Lib.hid hl; clear h0 hl ha
        go_enter Try.func13, Try.ntmps13
        go_wp2
        clear c0 c1 c2
        go_loopw [22] (fun i wr => ∃ k : Nat, k ≤ n ∧ i = .int .i64 k ∧ okTo l k ∧ Below w.heap.size w wr) (fun i _ => n - (intOf i).toNat)
        case atStart => exact ⟨0, Nat.zero_le _, rfl, fun i hi => by omega, Below.refl _ _⟩
        case round =>
          obtain ⟨k, hk, rfl, hok, hb⟩ := hrel
          have HK := Lib.hid hok; clear hok
          by_cases hlt : k < n
          · obtain ⟨c0, c1, c2⟩ := HC.out k hlt
            replace c0 := (hb.cell (p := ⟨b, off + k * 3, none⟩) hbw).trans c0
            replace c1 := (hb.cell (p := ⟨b, off + k * 3 + 1, none⟩) hbw).trans c1
            replace c2 := (hb.cell (p := ⟨b, off + k * 3 + 2, none⟩) hbw).trans c2
            have hs := okTo_succ l k
            have hz := hb.size
            have HS := Lib.hid hs; clear hs
            generalize hx : nthM l k = x at *
            obtain ⟨B, E, U⟩ := x
            have HX := Lib.hid hx; clear hx
            dsimp only at c0 c1 c2
            by_cases q1 : 0 ≤ B
            · by_cases q2 : B ≤ 1048576
              · by_cases q3 : 1 ≤ E ∧ E ≤ 32
                · have v3 := within_t q3
                  by_cases q4 : 1 ≤ U ∧ U ≤ 65536
                  · have v4 := within_t q4
                    have hm : okM (B, E, U) := ⟨q1, q2, q3.1, q3.2, q4.1, q4.2⟩
                    have HM := Lib.hid hm; clear hm q3 q4
                    cases k with
                    | zero =>
                      simp only [Nat.zero_mul, Nat.add_zero] at c0 c1 c2
                      go_wp2_with (go_at_call 22; refine (within_any _ _ _ _).mono ?_; rintro e w' ⟨rfl, rfl⟩)
                      go_quiet (fail)
                      go_wp2
                      go_roundw
                      case rel => exact ⟨1, by omega, by go_num, HS.out.2 ⟨HK.out, HM.out, fun h => absurd h (by omega)⟩, below_drewN (hb.alloc hz _) _⟩
                      case measure => simp [intOf]; omega
                    | succ j =>
                      obtain ⟨p0, _, _⟩ := HC.out j (by omega)
                      replace p0 := (hb.cell (p := ⟨b, off + j * 3, none⟩) hbw).trans p0
                      have hj : (j : Int) < n := by omega
                      have hbr : b < wr.heap.size := by omega
                      have ng : decide (((j : Int) + 1) > 0) = true := by simp
                      generalize hy : (nthM l j).1 = y at *
                      have HY := Lib.hid hy; clear hy
                      by_cases q5 : y < B
                      · go_wp2_with (go_at_call 22; refine (within_any _ _ _ _).mono ?_; rintro e w' ⟨rfl, rfl⟩)
                        go_quiet (fail)
                        go_wp2
                        go_roundw
                        case rel => exact ⟨j + 1 + 1, by omega, by go_num, HS.out.2 ⟨HK.out, HM.out, fun _ => by rw [Nat.add_sub_cancel, HY.out]; exact q5⟩, below_drewN (hb.alloc hz _) _⟩
                        case measure => simp [intOf]; omega
                      · have e : chk l = 100 := chk_no fun g => q5 (by have h := (g.2.2.2 (j + 1) (by rw [HL.out]; exact hlt)).2 (by omega); rw [Nat.add_sub_cancel, HY.out, HX.out] at h; exact h)
                        have E100 := Lib.hid e; clear e
                        go_wp2_with (go_at_call 22; refine (within_any _ _ _ _).mono ?_; rintro e w' ⟨rfl, rfl⟩)
                        go_quiet (fail)
                        go_wp2
                        go_ret
                        exact ⟨ret_int E100.out.symm, below_drewN (hb.alloc hz _) _⟩
                  · have v4 := within_f q4
                    have e : chk l = 100 := chk_no fun g => q4 (by have h := (g.2.2.2 k (by rw [HL.out]; exact hlt)).1; rw [HX.out] at h; exact ⟨h.2.2.2.2.1, h.2.2.2.2.2⟩)
                    have E100 := Lib.hid e; clear e
                    go_wp2_with (go_at_call 22; refine (within_any _ _ _ _).mono ?_; rintro e w' ⟨rfl, rfl⟩)
                    go_ret
                    exact ⟨ret_int E100.out.symm, hb.alloc hz _⟩
                · have v3 := within_f q3
                  have e : chk l = 100 := chk_no fun g => q3 (by have h := (g.2.2.2 k (by rw [HL.out]; exact hlt)).1; rw [HX.out] at h; exact ⟨h.2.2.1, h.2.2.2.1⟩)
                  have E100 := Lib.hid e; clear e
                  go_wp2_with (go_at_call 22; refine (within_any _ _ _ _).mono ?_; rintro e w' ⟨rfl, rfl⟩)
                  go_ret
                  exact ⟨ret_int E100.out.symm, hb.alloc hz _⟩
              · have e : chk l = 100 := chk_no fun g => q2 (by have h := (g.2.2.2 k (by rw [HL.out]; exact hlt)).1; rw [HX.out] at h; exact h.2.1)
                have E100 := Lib.hid e; clear e
                go_wp2_with (go_at_call 22; refine (within_any _ _ _ _).mono ?_; rintro e w' ⟨rfl, rfl⟩)
                go_ret
                exact ⟨ret_int E100.out.symm, hb.alloc hz _⟩
            · have e : chk l = 100 := chk_no fun g => q1 (by have h := (g.2.2.2 k (by rw [HL.out]; exact hlt)).1; rw [HX.out] at h; exact h.1)
              have E100 := Lib.hid e; clear e
              go_wp2_with (go_at_call 22; refine (within_any _ _ _ _).mono ?_; rintro e w' ⟨rfl, rfl⟩)
              go_ret
              exact ⟨ret_int E100.out.symm, hb.alloc hz _⟩
          · obtain rfl : k = n := by omega
            have e : chk l = 0 := chk_yes ⟨by rw [HL.out]; omega, by rw [HL.out]; omega, H0.out, by rw [HL.out]; exact HK.out⟩
            have E0 := Lib.hid e; clear e
            go_wp2
            go_ret
            exact ⟨ret_int E0.out.symm, hb⟩
      · have h0' : ((nthM l 0).1 != 0) = true := by simpa using h0
        have e : chk l = 100 := chk_no fun g => h0 g.2.2.1
        rw [e]
        clear h0 e
        go_enter Try.func13, Try.ntmps13
        go_wp2
        go_ret
        exact ⟨rfl, Below.refl _ _⟩
end Go.Proofs.Ytkgimglkiniofaa
