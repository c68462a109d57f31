/- The program's In and Out (layer 27). -/
import Derived.Test.YtagikfiiljdpnaaFadFade
namespace Go.Proofs.Ytagikfiiljdpnaa
open Go.ChangeShapes Go.WideShapes Go.ChangeAt Go.RowKit

theorem in_no (a : Option Addr) (len cap : Nat) (n : Int) (w : World) (h : ¬ FOk len n) :
    Calls Try.prog 14 #[.slice a len cap, .int .i64 n] w fun e w' => e = .returned (.tuple #[.slice none 0 0, .int .i64 1]) ∧ w = w' := by
  have hf : decide (FOk len n) = false := decide_eq_false h
  clear h
  go_enter Try.func14, Try.ntmps14
  go_wp2_with fail
  refine (fits_any _ _ _ _ _).mono ?_; rintro e w' ⟨rfl, rfl⟩; rw [hf]
  go_wp2
  go_ret2
  exact ⟨rfl, rfl⟩

theorem out_no (a : Option Addr) (len cap : Nat) (n : Int) (w : World) (h : ¬ FOk len n) :
    Calls Try.prog 16 #[.slice a len cap, .int .i64 n] w fun e w' => e = .returned (.tuple #[.slice none 0 0, .int .i64 1]) ∧ Below w.heap.size w w' := by
  have hf : decide (FOk len n) = false := decide_eq_false h
  clear h
  go_enter Try.func16, Try.ntmps16
  go_wp2_with fail
  refine (fits_any _ _ _ _ _).mono ?_; rintro e w' ⟨rfl, rfl⟩; rw [hf]
  go_wp2
  go_ret2
  exact ⟨rfl, (Below.refl _ _).alloc (Nat.le_refl _) _⟩

theorem in_ok (a : Option Addr) (b off len cap n : Nat) (l : List Int) (w : World) (hR : Row w a b off len l) (hn : n ≤ len) (hl : len ≤ 1000000) :
    Calls Try.prog 14 #[.slice a len cap, .int .i64 n] w fun e w' => ∃ v, e = .returned (.tuple #[v, .int .i64 0]) ∧ Ints w' w.heap.size v (fdL l n (fun i => i) n) ∧ Below w.heap.size w w' := by
  have HR := Lib.hid hR; clear hR
  have hf : decide (FOk len n) = true := decide_eq_true ⟨by omega, by omega, by omega⟩
  go_enter Try.func14, Try.ntmps14
  go_wp2_with fail
  refine (fits_any _ _ _ _ _).mono ?_; rintro e w' ⟨rfl, rfl⟩; rw [hf]
  go_wp2_with fail
  refine (callsIn_wide.1 (fadeI_in a b off len cap n l (fun i => i) _ HR.out hl hn (fun k h => by show k < len; omega) (fun i j hi hj => by show i ≠ j; omega) (fun k W h hB => in1_any k W))).mono ?_
  rintro e w2 ⟨v, rfl, hI, hB⟩
  obtain ⟨av, cv, rfl⟩ := hI.isSlice
  have HI := Lib.hid (show _ ∧ _ from ⟨hI, hB⟩); clear hI hB
  go_wp2
  go_ret2
  exact ⟨_, rfl, HI.out.1, HI.out.2⟩

theorem out_ok (a : Option Addr) (b off len cap n : Nat) (l : List Int) (w : World) (hR : Row w a b off len l) (hn : n ≤ len) (hl : len ≤ 1000000) :
    Calls Try.prog 16 #[.slice a len cap, .int .i64 n] w fun e w' => ∃ v, e = .returned (.tuple #[v, .int .i64 0]) ∧ Ints w' w.heap.size v (fdL l n (fun i => len - 1 - i) n) ∧ Below w.heap.size w w' := by
  have HR := Lib.hid hR; clear hR
  have hf : decide (FOk len n) = true := decide_eq_true ⟨by omega, by omega, by omega⟩
  go_enter Try.func16, Try.ntmps16
  go_wp2_with fail
  refine (fits_any _ _ _ _ _).mono ?_; rintro e w' ⟨rfl, rfl⟩; rw [hf]
  have hBA : Below w.heap.size w (w.alloc (.cells #[.slice a len cap] 27)) := (Below.refl _ _).alloc (Nat.le_refl _) _
  have nD := blk_new w (.cells #[.slice a len cap] 27)
  have HB := Lib.hid (show _ ∧ _ from ⟨hBA, nD⟩); clear hBA nD
  go_wp2_with fail
  refine (callsIn_wide.1 (fadeO_in w.heap.size a b off len cap n l (fun i => len - 1 - i) (w.alloc (.cells #[.slice a len cap] 27)) (HR.out.below HB.out.1 (Nat.le_refl _)) hl hn (fun k h => by show len - 1 - k < len; omega) (fun i j hi hj => by show len - 1 - i ≠ len - 1 - j; omega) (fun k W h hB => out1_any w.heap.size len cap k a W (blk_below HB.out.2 hB (by simp)) (by omega) hl))).mono ?_
  rintro e w2 ⟨v, rfl, hI, hB⟩
  obtain ⟨av, cv, rfl⟩ := hI.isSlice
  have HI := Lib.hid (show _ ∧ _ from ⟨hI.mono (show w.heap.size ≤ _ by simp), HB.out.1.trans (hB.mono (by simp))⟩); clear hI hB
  go_wp2
  go_ret2
  exact ⟨_, rfl, HI.out.1, HI.out.2⟩
end Go.Proofs.Ytagikfiiljdpnaa
