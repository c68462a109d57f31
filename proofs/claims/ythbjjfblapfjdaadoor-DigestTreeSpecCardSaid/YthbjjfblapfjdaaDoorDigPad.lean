/- The reference's padded (layer 2). -/
import Derived.Test.YthbjjfblapfjdaaDoorDigByt
import Derived.Test.YthbjjfblapfjdaaDoorOwnBSt
namespace Go.Proofs.YthbjjfblapfjdaaDoor
open Go.ChangeShapes Go.WideShapes Go.ChangeAt Go.RowKit

/-- How many zeros follow. -/
def zN (n : Nat) : Nat := (119 - n % 64) % 64
/-- A byte of the length, in bits. -/
def bitB (n : Nat) (j : Nat) : Int := (n : Int) * 8 / 2 ^ (8 * (7 - j)) % 256
def padL (l : List Int) : List Int := l ++ [128] ++ List.replicate (zN l.length) 0 ++ (List.range 8).map (bitB l.length)
def lenB : Value → Nat
  | .slice _ n _ => n
  | _ => 0
theorem padL_len (l : List Int) : (padL l).length = l.length + 1 + zN l.length + 8 := by simp [padL]; omega
theorem padL_mod (l : List Int) : (padL l).length % 64 = 0 := by rw [padL_len]; unfold zN; omega

set_option maxRecDepth 100000 in
set_option maxHeartbeats 4000000 in
theorem rpadded_any (a : Option Addr) (b off n cap : Nat) (l : List Int) (w : World) (hR : RowB w a b off n l) (hnc : a = none → cap = 0) (hn : n ≤ 900000) :
    Calls Tryd.prog 30 #[.slice a n cap] w fun e w' => ∃ v, e = .returned v ∧ Byts w' w.heap.size v (padL l) ∧ Below w.heap.size w w' := by
  have hl := hR.len
  have HR := Lib.hid hR
  clear hR
  go_enter Tryd.func30, Tryd.ntmps30
  go_wp2_with (first
    | (at_builtin; refine wpList_append_brow rfl (.tmp 6) (.tmp 7) rfl w.heap.size _ [] rfl (Byts.empty w) _ b off _ _ l rfl (HR.out.below ((Below.refl _ _).alloc (Nat.le_refl _) _) (Nat.le_refl _)) hnc (by simp; omega) (by simp) ?_; intro v1 w1 hO1 hB1 hgx; clear hgx; have hC1 := ((Below.refl w.heap.size w).alloc (Nat.le_refl _) _).trans hB1; rw [List.nil_append] at hO1; have hs1 := hC1.size)
    | (at_builtin; refine wpList_append_b rfl (.tmp 8) (.tmp 9) rfl w.heap.size _ l rfl (hO1.alloc _) w1.heap.size 128 rfl 5 (0, 0) (blk_new _ _) (by omega) (by simp; omega) ?_; intro v2 w2 hO2 hB2 hgx; clear hgx; have hC2 := (hC1.alloc hs1 _).trans hB2))
  have HO := Lib.hid (show _ ∧ _ from ⟨hO2, hC2⟩)
  clear hO1 hB1 hC1 hs1 hO2 hB2 hC2
  go_loopw [3] (fun v wr => ∃ z : Nat, z ≤ zN n ∧ Byts wr w.heap.size v (l ++ [128] ++ List.replicate z 0) ∧ Below w.heap.size w wr) (fun v _ => n + 1 + zN n - lenB v)
  case atStart => exact ⟨0, Nat.zero_le _, by simpa using HO.out.1, HO.out.2⟩
  case round =>
    obtain ⟨z, hz, hO, hB⟩ := hrel
    obtain ⟨av, bv, cv, ev, -, -, -⟩ := hO.row
    have hlen : (l ++ [128] ++ List.replicate z (0 : Int)).length = n + 1 + z := by simp [hl]; omega
    rw [hlen] at ev
    subst ev
    obtain ⟨N, hN⟩ : ∃ N, N = n + 1 + z := ⟨_, rfl⟩
    rw [← hN] at hO ⊢
    have hNi : (N : Int) ≤ 9223372036854775807 := by unfold zN at hz; omega
    obtain ⟨M, hM⟩ : ∃ M, M = N % 64 := ⟨_, rfl⟩
    have m1 : (N : Int).tmod 64 = (M : Int) := by rw [hM]; rfl
    have m2 : (N : Int) % 64 = (M : Int) := by omega
    by_cases hl2 : z < zN n
    · have hM56 : ((M : Int) != 56) = true := by
        have : M ≠ 56 := by unfold zN at hl2; omega
        simp; omega
      have hO' := hO
      have HO2 := Lib.hid (show _ ∧ _ ∧ _ ∧ _ from ⟨hO', hB, hN, hl2⟩)
      have hlz : (l ++ [128] ++ List.replicate z (0 : Int)).length ≤ 1000000 := by rw [hlen]; unfold zN at hz; omega
      have HLZ := Lib.hid hlz
      have hszB := hB.size
      clear hO hO' hB hN hl2 hlz hM hz
      go_wp2_with (at_builtin; refine wpList_append_b rfl (.tmp 15) (.tmp 16) rfl w.heap.size _ _ rfl (HO2.out.1.alloc _) wr.heap.size 0 rfl 5 (0, 0) (blk_new _ _) HLZ.out (by simp; omega) ?_; intro v3 w3 hO3 hB3 hgx; clear hgx)
      have HO3 := Lib.hid (show Byts w3 w.heap.size v3 (l ++ [128] ++ List.replicate (z + 1) 0) ∧ Below w.heap.size w w3 from ⟨by rw [List.append_assoc, ← List.replicate_succ'] at hO3; exact hO3, (HO2.out.2.1.alloc hszB _).trans hB3⟩)
      clear hO3 hB3
      go_roundw
      case rel => exact ⟨z + 1, by have := HO2.out.2.2.2; omega, HO3.out.1, HO3.out.2⟩
      case measure =>
        obtain ⟨_, _, _, e3, -⟩ := HO3.out.1.row
        have h3 : (l ++ [128] ++ List.replicate (z + 1) (0 : Int)).length = n + 1 + (z + 1) := by simp [hl]; omega
        rw [e3, h3]
        simp only [lenB]
        have := HO2.out.2.2.1; have := HO2.out.2.2.2
        simp; omega
    · have hM56 : ((M : Int) != 56) = false := by
        have : M = 56 := by unfold zN at hl2 hz; omega
        simp; omega
      have ez : z = zN n := by omega
      have HO2 := Lib.hid (show Byts wr w.heap.size (.slice av N cv) (l ++ [128] ++ List.replicate (zN n) 0) ∧ _ ∧ N = n + 1 + zN n from ⟨ez ▸ hO, hB, ez ▸ hN⟩)
      clear hO hB hN hl2 hM hz ez
      have wn : IntKind.u64.wrap ((n : Int) * 8) = (n : Int) * 8 := by rw [IntKind.wrap_u64]; omega
      have wn2 : IntKind.u64.wrap (n : Int) = (n : Int) := by rw [IntKind.wrap_u64]; omega
      generalize wr = W0 at *
      go_wp2_with fail
      go_loopw [3, 5] (fun v i wr => ∃ j : Nat, j ≤ 8 ∧ i = .int .i64 (7 - j) ∧ Byts wr w.heap.size v (l ++ [128] ++ List.replicate (zN n) 0 ++ (List.range j).map (bitB n)) ∧ Below w.heap.size w wr) (fun _ i _ => (intOf i + 1).toNat)
      case atStart => exact ⟨0, by omega, rfl, by simpa using HO2.out.1, HO2.out.2.1⟩
      case round =>
        obtain ⟨j, hj, rfl, hO, hB⟩ := hrel
        have hln : (l ++ [128] ++ List.replicate (zN n) (0 : Int) ++ (List.range j).map (bitB n)).length = n + 1 + zN n + j := by simp [hl]; omega
        have hz64 : zN n < 64 := by unfold zN; omega
        obtain ⟨a5, b5, c5, ev5, -, -, -⟩ := hO.row
        rw [hln] at ev5
        subst ev5
        by_cases hj8 : j < 8
        · have i0 : (0 : Int) ≤ 7 - (j : Int) := by omega
          have wj : IntKind.i64.wrap (7 - (j : Int) - 1) = 7 - (j : Int) - 1 := wrap_id (by omega)
          obtain ⟨e, he⟩ : ∃ e : Nat, e = 8 * (7 - j) := ⟨_, rfl⟩
          have we : IntKind.i64.wrap (8 * (7 - (j : Int))) = (e : Int) := (wrap_id (by omega)).trans (by omega)
          have HO3 := Lib.hid (show _ ∧ _ ∧ _ ∧ e = 8 * (7 - j) ∧ _ from ⟨hO, hB, hln, he, hj8⟩)
          have hszB := hB.size
          clear hO hB hln he
          go_wp2_with (at_builtin; refine wpList_append_b rfl (.tmp 26) (.tmp 32) rfl w.heap.size _ _ rfl (HO3.out.1.alloc _) wr.heap.size ((n : Int) * 8 / 2 ^ min e 64 % 256) rfl 5 (0, 0) (blk_new _ _) (by rw [HO3.out.2.2.1]; omega) (by simp; omega) ?_; intro v3 w3 hO3 hB3 hgx; clear hgx)
          have HO4 := Lib.hid (show Byts w3 w.heap.size v3 (l ++ [128] ++ List.replicate (zN n) 0 ++ (List.range (j + 1)).map (bitB n)) ∧ Below w.heap.size w w3 from ⟨by
            rw [List.range_succ, List.map_append, ← List.append_assoc]
            rw [show (n : Int) * 8 / 2 ^ min e 64 % 256 = bitB n j by unfold bitB; rw [show min e 64 = 8 * (7 - j) by have := HO3.out.2.2.2.1; omega]] at hO3
            exact hO3, (HO3.out.2.1.alloc hszB _).trans hB3⟩)
          clear hO3 hB3
          go_roundw
          case rel => exact ⟨j + 1, by omega, by go_num, HO4.out.1, HO4.out.2⟩
          case measure => simp [intOf]; omega
        · obtain rfl : j = 8 := by omega
          have HO3 := Lib.hid (show _ ∧ _ from ⟨hO, hB⟩)
          clear hO hB hln
          go_wp2
          go_ret
          exact ⟨_, rfl, by unfold padL; rw [hl]; exact HO3.out.1, HO3.out.2⟩
end Go.Proofs.YthbjjfblapfjdaaDoor
