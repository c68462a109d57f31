/- digest.padding (layer 2). -/
import Derived.Test.YthbjjfblapfjdaaDoorDigPad
import Derived.Laws.CopyOwn
namespace Go.Proofs.YthbjjfblapfjdaaDoor
open Go.ChangeShapes Go.WideShapes Go.ChangeAt Go.RowKit

/-- The end of a message of n bytes, of which rest remains: with the last k bytes of the length. -/
def padP (rest : List Int) (n k : Nat) : List Int := rest ++ [128] ++ List.replicate (zN rest.length) 0 ++ (List.range 8).map (fun j => if 8 - k ≤ j then bitB n j else 0)
def padE (rest : List Int) (n : Nat) : List Int := rest ++ [128] ++ List.replicate (zN rest.length) 0 ++ (List.range 8).map (bitB n)
theorem padP_all (rest : List Int) (n : Nat) : padP rest n 8 = padE rest n := by simp [padP, padE]
theorem padP_len (rest : List Int) (n k : Nat) : (padP rest n k).length = rest.length + 1 + zN rest.length + 8 := by simp [padP]; omega
theorem padP_set (rest : List Int) (n k : Nat) (hk : k < 8) : (padP rest n k).set (rest.length + 1 + zN rest.length + 7 - k) (bitB n (7 - k)) = padP rest n (k + 1) := by
  have hp : (rest ++ [128] ++ List.replicate (zN rest.length) (0 : Int)).length = rest.length + 1 + zN rest.length := by simp; omega
  unfold padP
  rw [List.set_append_right _ _ (by rw [hp]; omega), hp]
  congr 1
  apply List.ext_getElem?
  intro i
  rw [show rest.length + 1 + zN rest.length + 7 - k - (rest.length + 1 + zN rest.length) = 7 - k by omega]
  by_cases e : 7 - k = i
  · subst e
    rw [List.getElem?_set_self (by simp; omega), List.getElem?_map, List.getElem?_range (by omega), Option.map_some, if_pos (by omega)]
  · rw [List.getElem?_set_ne e, List.getElem?_map, List.getElem?_map]
    by_cases hi : i < 8
    · rw [List.getElem?_range hi, Option.map_some, Option.map_some]
      by_cases c : 8 - k ≤ i
      · rw [if_pos c, if_pos (by omega)]
      · rw [if_neg c, if_neg (by omega)]
    · rw [List.getElem?_eq_none (by simp; omega)]; rfl
theorem pad_first (rest : List Int) (n : Nat) : (rest ++ List.replicate (1 + zN rest.length + 8) (0 : Int)).set rest.length 128 = padP rest n 0 := by
  rw [List.set_append_right _ _ (Nat.le_refl _), Nat.sub_self]
  have e : List.replicate (1 + zN rest.length + 8) (0 : Int) = 0 :: (List.replicate (zN rest.length) 0 ++ List.replicate 8 0) := by
    rw [← List.replicate_append_replicate.symm, ← List.replicate_succ]
    congr 1; omega
  rw [e, List.set_cons_zero]
  unfold padP
  have e2 : (List.range 8).map (fun j => if 8 - 0 ≤ j then bitB n j else 0) = List.replicate 8 (0 : Int) := by
    rfl
  rw [e2]
  simp
theorem map_at {i : Nat} (L : List Int) (h : i < L.length) : ((L.map (Value.int .u8)).toArray)[i]? = some (.int .u8 (L.getD i 0)) := by
  simp [List.getD_eq_getElem?_getD, h]
theorem Byts.of_full {w : World} {B g E : Nat} {L : List Int} (hL : L.length = E) (h : w.heap[g]? = some (.cells ((L.map (Value.int .u8)).toArray) 5 (0, 0))) (hg : B ≤ g) (hm : E ≤ maxLen) : Byts w B (.slice (some ⟨g, 0, none⟩) E E) L := by
  subst hL
  refine ⟨by simp, .inr ⟨g, L.length, _, rfl, hg, h, Nat.le_refl _, hm, by simp, ?_⟩⟩
  rw [List.take_of_length_le (by simp)]
theorem set_u8 (L : List Int) (i : Nat) (x : Int) : ((L.map (Value.int .u8)).toArray.setIfInBounds i (.int .u8 x)) = ((L.set i x).map (Value.int .u8)).toArray := by
  simp [List.map_set]
theorem mk_u8 (m : Nat) (hm : m ≤ 1000000) : ∃ F : Array Value, F.toList = (List.replicate m (0 : Int)).map (Value.int .u8) ∧ ∀ w : World, (Instr.makeSlice 22 (.int .i64 (m : Int)) (.int .i64 (m : Int))).run Tryd.prog w = .ok (.slice (some ⟨w.heap.size, 0, none⟩) m m) (w.alloc (.cells F 5)) := by
  obtain ⟨i0, hi, hz0, hz1, hz2⟩ := info_parts info_u8
  refine ⟨madeCells (Value.int .u8 0).cells (m * i0.size), ?_, fun w => ?_⟩
  · rw [hz1, Nat.mul_one]
    apply List.ext_getElem?
    intro p
    by_cases hp : p < m
    · simp [madeCells, Value.cells, hp, Nat.mod_one]
    · simp [madeCells, Value.cells, hp]
  · have := run_makeSlice (P := Tryd.prog) w 22 5 i0 (.int .u8 0) Tryd.underlying22 hi hz0 .i64 .i64 (m : Int) (m : Int) (by omega) (by omega) (by rw [hz1]; simp; omega) (by rw [hz2]; omega) (by omega)
    simpa using this

set_option maxRecDepth 100000 in
set_option maxHeartbeats 4000000 in
theorem padding_any (a : Option Addr) (b off r cap n : Nat) (rest : List Int) (w : World) (hR : RowB w a b off r rest) (hr : r ≤ 900000) (hn : n ≤ 9223372036854775807 / 16) :
    Calls Tryd.prog 28 #[.slice a r cap, .int .i64 n] w fun e w' => ∃ v, e = .returned v ∧ Byts w' w.heap.size v (padE rest n) ∧ Below w.heap.size w w' := by
  have hl := hR.len
  have HR := Lib.hid hR
  clear hR
  obtain ⟨E, hE⟩ : ∃ E, E = r + 1 + zN r + 8 := ⟨_, rfl⟩
  have hzN : zN r < 64 := by unfold zN; omega
  have hE64 : (r + 72) / 64 * 64 = E := by rw [hE]; unfold zN; omega
  obtain ⟨F, hF, hmk⟩ := mk_u8 E (by omega)
  obtain ⟨Q, hQ⟩ : ∃ Q, Q = (r + 72) / 64 := ⟨_, rfl⟩
  have q1 : ((r : Int) + 9 + 63).tdiv 64 = (Q : Int) := by rw [hQ]; rfl
  have q2 : ((r : Int) + 9 + 63) / 64 = (Q : Int) := by omega
  have u1 : IntKind.i64.wrap ((r : Int) + 9) = (r : Int) + 9 := wrap_id (by omega)
  have u2 : IntKind.i64.wrap ((r : Int) + 9 + 63) = (r : Int) + 9 + 63 := wrap_id (by omega)
  have u3 : IntKind.i64.wrap ((Q : Int) * 64) = (E : Int) := (wrap_id (by omega)).trans (by omega)
  have HF := Lib.hid (show _ ∧ _ ∧ _ from ⟨hF, hE, hzN⟩)
  clear hF hE hE64 hQ hzN
  go_enter Tryd.func28, Tryd.ntmps28
  go_wp2_with (with_reducible refine held (o := ⟨some 16, _, _, _, _, _⟩) ?_)
  unfold Held
  have hgF : (w.alloc (.cells F 5)).heap[w.heap.size]? = some (.cells ((List.replicate E (0 : Int)).map (Value.int .u8)).toArray 5 (0, 0)) := by
    have := blk_new w (.cells F 5)
    rw [this, ← HF.out.1]
  have hBa : Below w.heap.size w (w.alloc (.cells F 5)) := (Below.refl _ _).alloc (Nat.le_refl _) _
  have hRa := HR.out.below hBa (Nat.le_refl _)
  refine wpList_copy_splice rfl (.tmp 14) (.tmp 15) _ _ rfl 5 Tryd.underlying22 (by kernel_rfl) (some ⟨w.heap.size, 0, none⟩) a E E r cap rfl rfl w.heap.size 0 ((List.replicate E (0 : Int)).map (Value.int .u8)) 5 hgF (rest.map (Value.int .u8)) (by rw [List.length_map, hl]; exact (Nat.min_eq_left (by have := HF.out.2.1; omega)).symm) (fun h0 => ⟨rfl, ⟨b, off, none⟩, hRa.adr (by rw [List.length_map] at h0; omega), fun j v hv => by
    rw [Go.WideShapes.add_plain]
    have hj : j < r := by
      have := (List.getElem?_eq_some_iff.1 hv).1
      rw [List.length_map, hl] at this; exact this
    rw [hRa.cel j hj]
    rw [List.getElem?_map] at hv
    simp [List.getD_eq_getElem?_getD, show j < rest.length by omega] at hv ⊢
    exact hv⟩) (by simp [hl]; have := HF.out.2.1; omega) (fun v hv => by
    rw [List.mem_map] at hv
    obtain ⟨x, _, rfl⟩ := hv
    rfl) w.heap.size w hBa (Nat.le_refl _) ?_
  intro w2 hG2 hB2
  have hsp : splice ((List.replicate E (0 : Int)).map (Value.int .u8)) 0 (rest.map (Value.int .u8)) = (rest ++ List.replicate (1 + zN r + 8) (0 : Int)).map (Value.int .u8) := by
    unfold splice
    rw [List.take_zero, List.nil_append, List.map_append, Nat.zero_add, List.length_map, hl, ← List.map_drop, List.drop_replicate]
    congr 3
    have := HF.out.2.1; omega
  have hX2 : w2.heap[w.heap.size]? = some (.cells ((rest ++ List.replicate (1 + zN r + 8) (0 : Int)).map (Value.int .u8)).toArray 5 (0, 0)) := by rw [← hsp]; exact hG2.out
  have hlen0 : (rest ++ List.replicate (1 + zN r + 8) (0 : Int)).length = E := by simp [hl]; have := HF.out.2.1; omega
  have cr := (blk_cell hX2 r).trans (map_at (i := r) (rest ++ List.replicate (1 + zN r + 8) (0 : Int)) (by rw [hlen0]; have := HF.out.2.1; omega))
  have fr := blk_free hX2 r
  have hg2 := (Array.getElem?_eq_some_iff.1 hX2).1
  have hX3 := cells_setU (i := r) (v := .int .u8 128) hX2
  rw [set_u8, ← hl, pad_first rest n, hl] at hX3
  have i1 : (r : Int) < (E : Int) := by have := HF.out.2.1; omega
  have w1 : IntKind.i64.wrap ((E : Int) - 1) = (E : Int) - 1 := wrap_id (by have := HF.out.2; omega)
  have wn : IntKind.u64.wrap (n : Int) = (n : Int) := by rw [IntKind.wrap_u64]; omega
  have wn8 : IntKind.u64.wrap ((n : Int) * 8) = (n : Int) * 8 := by rw [IntKind.wrap_u64]; omega
  have HX := Lib.hid (show _ ∧ Below w.heap.size w (w2.setCell ⟨w.heap.size, r, none⟩ (.int .u8 128)) from ⟨hX3, hB2.setCell (p := ⟨w.heap.size, r, none⟩) (Nat.le_refl _) _⟩)
  generalize (rest ++ List.replicate (1 + zN r + 8) (0 : Int)).getD r 0 = z0 at *
  clear hX2 hX3 hsp hG2 hB2 hgF hBa hRa hlen0 hmk
  go_wp2_with fail
  go_loopw [21] (fun i wr => ∃ k : Nat, k ≤ 8 ∧ i = .int .i64 k ∧ wr.heap[w.heap.size]? = some (.cells ((padP rest n k).map (Value.int .u8)).toArray 5 (0, 0)) ∧ Below w.heap.size w wr) (fun i _ => 8 - (intOf i).toNat)
  case atStart => exact ⟨0, by omega, rfl, HX.out.1, HX.out.2⟩
  case round =>
    obtain ⟨k, hk, rfl, hX, hB⟩ := hrel
    have hpl : (padP rest n k).length = E := by rw [padP_len, hl]; exact HF.out.2.1.symm
    by_cases h8 : k < 8
    · have j1 : (k : Int) < 8 := by omega
      have uk : IntKind.i64.wrap ((k : Int) + 1) = (k : Int) + 1 := wrap_id (by omega)
      obtain ⟨P, hP⟩ : ∃ P : Nat, P = E - 1 - k := ⟨_, rfl⟩
      obtain ⟨e, he⟩ : ∃ e : Nat, e = 8 * k := ⟨_, rfl⟩
      have hPE : (P : Int) < (E : Int) := by have := HF.out.2; omega
      have w2' : IntKind.i64.wrap ((E : Int) - 1 - (k : Int)) = (P : Int) := (wrap_id (by have := HF.out.2; omega)).trans (by have := HF.out.2; omega)
      have w3' : IntKind.i64.wrap (8 * (k : Int)) = (e : Int) := (wrap_id (by omega)).trans (by omega)
      have cP := (blk_cell hX P).trans (map_at (i := P) (padP rest n k) (by rw [hpl]; omega))
      have fP := blk_free hX P
      have hgr := (Array.getElem?_eq_some_iff.1 hX).1
      have HK := Lib.hid (show _ ∧ _ ∧ _ ∧ _ ∧ _ from ⟨hX, hB, hP, he, h8⟩)
      generalize (padP rest n k).getD P 0 = z1 at *
      clear hX hB hpl hP he
      go_wp2
      go_roundw
      case rel => exact ⟨k + 1, by omega, by go_num, by
        have := cells_setU (i := P) (v := .int .u8 (bitB n (7 - k))) HK.out.1
        rw [set_u8, show P = rest.length + 1 + zN rest.length + 7 - k by rw [hl]; have := HK.out.2.2.1; have := HF.out.2.1; omega, padP_set rest n k HK.out.2.2.2.2] at this
        rw [show (n : Int) * 8 / 2 ^ min e 64 % 256 = bitB n (7 - k) by unfold bitB; rw [show min e 64 = 8 * (7 - (7 - k)) by have := HK.out.2.2.2.1; omega]]
        rw [show P = rest.length + 1 + zN rest.length + 7 - k by rw [hl]; have := HK.out.2.2.1; have := HF.out.2.1; omega]
        exact this, HK.out.2.1.setCell (p := ⟨w.heap.size, P, none⟩) (Nat.le_refl _) _⟩
      case measure => simp [intOf]; omega
    · obtain rfl : k = 8 := by omega
      rw [padP_all] at hX
      have hpl2 : (padE rest n).length = E := by rw [← padP_all]; exact hpl
      have HK := Lib.hid (show _ ∧ _ ∧ _ from ⟨hX, hB, hpl2⟩)
      clear hX hB hpl hpl2
      go_wp2
      go_ret
      exact ⟨_, rfl, Byts.of_full HK.out.2.2 HK.out.1 (Nat.le_refl _) (by unfold maxLen; have := HF.out.2; omega), HK.out.2.1⟩
end Go.Proofs.YthbjjfblapfjdaaDoor
