/- Digest: rotations and words (layer 2). -/
import Derived.Test.YthbjjfblapfjdaaDoorOwn
import Derived.Laws.BitsAllLaws
import Derived.Laws.Shifts
namespace Go.Proofs.YthbjjfblapfjdaaDoor
open Go.ChangeShapes Go.WideShapes Go.ChangeAt Go.RowKit

/-- Thirty-two bits, turned to the right. -/
def ror (x n : Int) : Int := bits .or .u32 (x * 2 ^ (32 - n).toNat % 4294967296) (x / 2 ^ n.toNat)
def isU32 (x : Int) : Prop := 0 ≤ x ∧ x < 4294967296
theorem mod_u32 (x : Int) : isU32 (x % 4294967296) := by unfold isU32; omega
theorem isU32.div {x : Int} (h : isU32 x) (n : Nat) : isU32 (x / 2 ^ n) := by
  have hp : (0 : Int) < 2 ^ n := Int.pow_pos (by decide)
  refine ⟨Int.ediv_nonneg h.1 (by omega), Int.lt_of_le_of_lt (Int.ediv_le_self _ h.1) h.2⟩
theorem isU32.or {x y : Int} (h : isU32 x) (h' : isU32 y) : isU32 (bits .or .u32 x y) := by
  rw [u32_or x y h.1 h.2 h'.1 h'.2]
  refine ⟨by omega, ?_⟩
  have := Nat.or_lt_two_pow (x := x.toNat) (y := y.toNat) (n := 32) (by have := h.2; omega) (by have := h'.2; omega)
  omega
theorem isU32.xor {x y : Int} (h : isU32 x) (h' : isU32 y) : isU32 (bits .xor .u32 x y) := by
  rw [u32_xor x y h.1 h.2 h'.1 h'.2]
  refine ⟨by omega, ?_⟩
  have := Nat.xor_lt_two_pow (x := x.toNat) (y := y.toNat) (n := 32) (by have := h.2; omega) (by have := h'.2; omega)
  omega
theorem isU32.and {x y : Int} (h : isU32 x) (h' : isU32 y) : isU32 (bits .and .u32 x y) := by
  rw [u32_and x y h.1 h.2 h'.1 h'.2]
  refine ⟨by omega, ?_⟩
  have := Nat.and_le_left (n := x.toNat) (m := y.toNat)
  have := h.2
  omega
theorem or_comm {x y : Int} (h : isU32 x) (h' : isU32 y) : bits .or .u32 x y = bits .or .u32 y x := by
  rw [u32_or x y h.1 h.2 h'.1 h'.2, u32_or y x h'.1 h'.2 h.1 h.2, Nat.or_comm]
theorem ror_u32 {x : Int} (h : isU32 x) (n : Int) : isU32 (ror x n) := (mod_u32 _).or (h.div _)
/-- Four bytes. -/
def word (a b c d : Int) : Int := bits .or .u32 (bits .or .u32 (bits .or .u32 (a % 4294967296 * 16777216 % 4294967296) (b % 4294967296 * 65536 % 4294967296)) (c % 4294967296 * 256 % 4294967296)) (d % 4294967296)
theorem word_u32 (a b c d : Int) : isU32 (word a b c d) := (((mod_u32 _).or (mod_u32 _)).or (mod_u32 _)).or (mod_u32 _)
theorem neg_and (n : Int) (h0 : 0 < n) (h1 : n < 32) : bits .and .u64 (IntKind.u64.wrap (-n)) 31 = 32 - n := by
  obtain ⟨k, rfl⟩ : ∃ k : Nat, n = k := ⟨n.toNat, by omega⟩
  have : ∀ k : Fin 32, 0 < k.1 → bits .and .u64 (IntKind.u64.wrap (-(k.1 : Int))) 31 = 32 - (k.1 : Int) := by decide +kernel
  exact this ⟨k, by omega⟩ (show 0 < k by omega)

theorem rot_any (v n : Int) (w : World) (h0 : 0 < n) (h1 : n < 32) :
    Calls Tryd.prog 49 #[.int .u32 v, .int .i64 (-n)] w fun e w' => e = .returned (.int .u32 (ror v n)) ∧ w' = w := by
  have hs := neg_and n h0 h1
  have hm1 : min (32 - n).toNat IntKind.u32.bits = (32 - n).toNat := by have : IntKind.u32.bits = 32 := rfl; omega
  have hm2 : min n.toNat IntKind.u32.bits = n.toNat := by have : IntKind.u32.bits = 32 := rfl; omega
  have hw : IntKind.u64.wrap (32 - (32 - n)) = n := by rw [IntKind.wrap_u64]; omega
  have h2 : 0 ≤ 32 - n := by omega
  have h3 : 0 ≤ n := by omega
  go_enter Tryd.func49, Tryd.ntmps49
  go_wp2
  go_ret
  exact ⟨rfl, rfl⟩
theorem ror_any (v n : Int) (w : World) (h0 : 0 < n) (h1 : n < 32) :
    Calls Tryd.prog 44 #[.int .u32 v, .int .i64 n] w fun e w' => e = .returned (.int .u32 (ror v n)) ∧ w' = w := by
  go_enter Tryd.func44, Tryd.ntmps44
  go_wp2_with fail
  refine (rot_any v n _ h0 h1).mono ?_; rintro e w' ⟨rfl, rfl⟩
  go_wp2
  go_ret
  exact ⟨rfl, rfl⟩
theorem rror_any (v n : Int) (w : World) (hv : isU32 v) (h0 : 0 < n) (h1 : n < 32) :
    Calls Tryd.prog 46 #[.int .u32 v, .int .i64 n] w fun e w' => e = .returned (.int .u32 (ror v n)) ∧ ∃ m, w' = w.drewN m := by
  have hm1 : min (32 - n).toNat IntKind.u32.bits = (32 - n).toNat := by have : IntKind.u32.bits = 32 := rfl; omega
  have hm2 : min n.toNat IntKind.u32.bits = n.toNat := by have : IntKind.u32.bits = 32 := rfl; omega
  have h2 : 0 ≤ 32 - n := by omega
  have h3 : 0 ≤ n := by omega
  have hc := Lib.hid (or_comm (hv.div n.toNat) (mod_u32 (v * 2 ^ (32 - n).toNat)))
  go_enter Tryd.func46, Tryd.ntmps46
  go_wp2_with fail
  go_quiet (fail)
  go_wp2
  go_ret
  exact ⟨by simp [hc.out]; rfl, _, rfl⟩
set_option maxHeartbeats 1000000 in
theorem word_any (b off cap : Nat) (x0 x1 x2 x3 : Int) (w : World) (h0 : w.cell? ⟨b, off, none⟩ = some (.int .u8 x0)) (h1 : w.cell? ⟨b, off + 1, none⟩ = some (.int .u8 x1)) (h2 : w.cell? ⟨b, off + 2, none⟩ = some (.int .u8 x2)) (h3 : w.cell? ⟨b, off + 3, none⟩ = some (.int .u8 x3)) :
    Calls Tryd.prog 45 #[.slice (some ⟨b, off, none⟩) 4 cap] w fun e w' => e = .returned (.int .u32 (word x0 x1 x2 x3)) ∧ ∃ m, w' = w.drewN m := by
  go_enter Tryd.func45, Tryd.ntmps45
  go_wp2_with fail
  go_quiet (fail)
  go_wp2
  go_ret
  exact ⟨by simp [word], _, rfl⟩
end Go.Proofs.YthbjjfblapfjdaaDoor
