/- Slices laid one after the other (layer 27). -/
import Derived.Test.YtagikfiiljdpnaaFadRef
import Derived.Laws.CopyOwn
namespace Go.Proofs.Ytagikfiiljdpnaa
open Go.ChangeShapes Go.WideShapes Go.ChangeAt Go.RowKit

/-- A slice of numbers, and what it holds. -/
structure Sl where
  a : Option Addr
  n : Nat
  c : Nat
  b : Nat
  off : Nat
  l : List Int
def Sl.val (s : Sl) : Value := .slice s.a s.n s.c
def Sl.ok (w : World) (s : Sl) : Prop := Row w s.a s.b s.off s.n s.l
def lens (xs : List Sl) : Nat := (xs.map (·.n)).sum

theorem lens_take (xs : List Sl) (k : Nat) (h : k < xs.length) : lens (xs.take (k + 1)) = lens (xs.take k) + (xs[k]).n := by
  unfold lens
  rw [List.take_add_one, List.getElem?_eq_getElem h, List.map_append, List.sum_append]
  simp
theorem lens_le (xs : List Sl) (k : Nat) : lens (xs.take k) ≤ lens xs := by
  conv => rhs; rw [← List.take_append_drop k xs]
  unfold lens
  rw [List.map_append, List.sum_append]
  omega
def joinL (xs : List Sl) (k : Nat) : List Int := (xs.take k).flatMap (·.l)
theorem joinL_succ (xs : List Sl) (k : Nat) (h : k < xs.length) : joinL xs (k + 1) = joinL xs k ++ (xs[k]).l := by
  unfold joinL
  rw [List.take_add_one, List.getElem?_eq_getElem h, List.flatMap_append]
  simp
theorem joinL_len {w : World} (xs : List Sl) (hR : ∀ s ∈ xs, s.ok w) (k : Nat) : (joinL xs k).length = lens (xs.take k) := by
  unfold joinL lens
  rw [List.length_flatMap]
  congr 1
  refine List.map_congr_left fun s hs => ?_
  exact (hR s (List.mem_of_mem_take hs)).len

theorem catStart {w wr w1 : World} {M : Nat} (hB : Below w.heap.size w wr)
    (hS : w1.ownsRow w.heap.size 3 1 (.slice (some ⟨wr.heap.size, 0, none⟩) M M) M (madeCells (Value.int .i64 0).cells (M * 1)).toList) (hG : wr.grownBy w1 none) :
    Ints w1 w.heap.size (.slice (some ⟨wr.heap.size, 0, none⟩) M M) (List.replicate M 0) ∧ Below w.heap.size w w1 := by
  refine ⟨?_, hB.trans ((Below.refl _ _).grown hG hB.size (fun _ h => by cases h))⟩
  unfold Ints
  rw [List.length_replicate, List.map_replicate]
  have e : (madeCells (Value.int .i64 0).cells (M * 1)).toList = List.replicate M (Value.int .i64 0) := by
    apply List.ext_getElem?
    intro i
    by_cases hi : i < M
    · simp [madeCells, Value.cells, hi, Nat.mod_one]
    · rw [List.getElem?_eq_none (by simp [madeCells]; omega), List.getElem?_eq_none (by simp; omega)]
  rw [← e]
  exact hS
/-- A slice that fills its block. -/
def Full (w : World) (g M : Nat) (L : List Int) : Prop := L.length = M ∧ w.heap[g]? = some (.cells (L.map (Value.int .i64)).toArray 3 (0, 0))
theorem Ints.full {w : World} {B g M : Nat} {L : List Int} (hL : L.length = M) (h : Ints w B (.slice (some ⟨g, 0, none⟩) M M) L) : Full w g M L ∧ B ≤ g ∧ M ≤ maxLen := by
  subst hL
  rcases h.2 with ⟨h0, _⟩ | ⟨q, cap, cur, h1, h2, h3, h4, h5, h6, h7⟩
  · cases h0
  · cases h1
    refine ⟨⟨rfl, ?_⟩, h2, h5⟩
    rw [h3]
    rw [← h7, List.take_of_length_le (by simp [h6])]
theorem Full.ints {w : World} {B g M : Nat} {L : List Int} (h : Full w g M L) (hg : B ≤ g) (hm : M ≤ maxLen) : Ints w B (.slice (some ⟨g, 0, none⟩) M M) L := by
  obtain ⟨rfl, h2⟩ := h
  refine ⟨by simp, .inr ⟨g, L.length, _, rfl, hg, h2, Nat.le_refl _, hm, by simp, ?_⟩⟩
  rw [List.take_of_length_le (by simp)]
theorem join_splice {M A A2 : Nat} {L1 L2 l : List Int} (h1 : L1.length = A) (h2 : L2 = L1 ++ l) (h3 : A2 = A + l.length) (h4 : A2 ≤ M) :
    splice ((L1 ++ List.replicate (M - A) (0 : Int)).map (Value.int .i64)) A (l.map (Value.int .i64)) = (L2 ++ List.replicate (M - A2) (0 : Int)).map (Value.int .i64) := by
  subst h2 h3
  unfold splice
  rw [List.map_append, List.map_append, List.map_append, List.length_map, List.take_left' (by simp [h1]), List.drop_append, List.drop_of_length_le (by simp [h1]), List.append_assoc]
  simp [h1]
  omega

def Held (p : Prop) : Prop := p
theorem held {P : Program} {w : World} {ops : Array Oper} {rest : List Oper} {o : Oper} {a : Act} {Q : Exit → Act → World → Prop} (h : Held (wpList P ops Q (o :: rest) a w)) : wpList P ops Q (o :: rest) a w := h

set_option maxHeartbeats 1000000 in
theorem concat_any (g : Nat) (xs : List Sl) (w : World) (hc : ∀ i (h : i < xs.length), w.cell? ⟨g, i, none⟩ = some (xs[i]).val) (hg : g < w.heap.size) (hR : ∀ s ∈ xs, s.ok w) (ht : lens xs ≤ 1000000) (hx : xs.length ≤ 1000) :
    Calls Try.prog 35 #[.slice (some ⟨g, 0, none⟩) xs.length xs.length] w fun e w' => ∃ v, e = .returned v ∧ Ints w' w.heap.size v (xs.flatMap (·.l)) ∧ Below w.heap.size w w' := by
  obtain ⟨N, hN⟩ : ∃ N, N = xs.length := ⟨_, rfl⟩
  have HC := Lib.hid (show _ ∧ _ from ⟨hc, hR⟩); clear hc hR
  obtain ⟨i0, hi, hz0, hz1, hz2⟩ := info_parts info_int
  rw [← hN]
  have HN := Lib.hid hN
  rw [← hN] at hx
  clear hN
  go_enter Try.func35, Try.ntmps35
  go_wp2
  go_loopw [3, 12] (fun i j wr => ∃ k : Nat, k ≤ N ∧ i = .int .i64 (lens (xs.take k)) ∧ j = .int .i64 k ∧ Below w.heap.size w wr) (fun _ j _ => N - (intOf j).toNat)
  case atStart => exact ⟨0, Nat.zero_le _, rfl, rfl, Below.refl _ _⟩
  case round =>
    obtain ⟨k, hk, rfl, rfl, hB⟩ := hrel
    by_cases hlt : k < N
    · have hkx : k < xs.length := by rw [← HN.out]; exact hlt
      have hce := (hB.cell (p := ⟨g, k, none⟩) hg).trans (HC.out.1 k hkx)
      have hl1 := lens_take xs k hkx
      have hl2 := lens_le xs (k + 1)
      generalize xs[k] = s at *
      have HL := Lib.hid hl1
      unfold Sl.val at hce
      obtain ⟨A, hA⟩ : ∃ A, A = lens (xs.take k) := ⟨_, rfl⟩
      obtain ⟨A2, hA2⟩ : ∃ A2, A2 = lens (xs.take (k + 1)) := ⟨_, rfl⟩
      rw [← hA]
      rw [← hA2] at hl2
      have hh : A2 = A + s.n := by rw [hA, hA2]; exact hl1
      have HA := Lib.hid hA2
      clear hA hA2 hl1 HL
      have z1 : IntKind.i64.wrap ((A : Int) + (s.n : Int)) = (A2 : Int) := by rw [IntKind.wrap_i64]; omega
      go_wp2
      go_roundw
      case rel => exact ⟨k + 1, by omega, by rw [← HA.out]; go_num, by go_num, hB⟩
      case measure => simp [intOf]; omega
    · obtain rfl : k = N := by omega
      rw [show xs.take k = xs by rw [HN.out]; exact List.take_length]
      obtain ⟨M, hM⟩ : ∃ M, M = lens xs := ⟨_, rfl⟩
      have HM := Lib.hid hM
      rw [← hM] at ht ⊢
      clear hM
      have hbs := hB.size
      go_wp2_with (at_make; refine wpList_make_full _ rfl _ _ 27 rfl w.heap.size 3 i0 (.int .i64 0) 1 Try.underlying27 hi hz0 hz1 _ _ _ _ M rfl rfl (by simp) (by simp) (by rw [hz2]; omega) (by unfold maxLen; omega) (by omega) ?_; intro w1 hS hG; have hQ := catStart hB hS hG; clear hS hG)
      clear hB
      generalize wr.heap.size = gg at *
      go_loopw [7, 25] (fun i j wq => ∃ k2 : Nat, k2 ≤ k ∧ i = .int .i64 (lens (xs.take k2)) ∧ j = .int .i64 k2 ∧ Full wq gg M (joinL xs k2 ++ List.replicate (M - lens (xs.take k2)) 0) ∧ Below w.heap.size w wq) (fun _ j _ => k - (intOf j).toNat)
      case atStart => exact ⟨0, Nat.zero_le _, rfl, rfl, (hQ.1.full (by simp)).1, hQ.2⟩
      case round =>
        obtain ⟨k2, hk2, rfl, rfl, hF, hB2⟩ := hrel
        by_cases hlt : k2 < k
        · have hkx : k2 < xs.length := by rw [← HN.out]; exact hlt
          have hce := (hB2.cell (p := ⟨g, k2, none⟩) hg).trans (HC.out.1 k2 hkx)
          have hl1 := lens_take xs k2 hkx
          have hl2 := lens_le xs (k2 + 1)
          have hj := joinL_succ xs k2 hkx
          have hj2 := joinL_len xs HC.out.2 k2
          have hS := (HC.out.2 xs[k2] (List.getElem_mem _)).below hB2 (Nat.le_refl _)
          generalize xs[k2] = s at *
          unfold Sl.val at hce
          obtain ⟨A, hA⟩ : ∃ A, A = lens (xs.take k2) := ⟨_, rfl⟩
          obtain ⟨A2, hA2⟩ : ∃ A2, A2 = lens (xs.take (k2 + 1)) := ⟨_, rfl⟩
          rw [← hA] at hF hj2 ⊢
          rw [← hA2, ← HM.out] at hl2
          have hh : A2 = A + s.n := by rw [hA, hA2]; exact hl1
          have hspl := join_splice hj2 hj (by rw [hS.len]; exact hh) hl2
          have HFL := hF.2
          obtain ⟨CV, hCV⟩ : ∃ CV, CV = (joinL xs k2 ++ List.replicate (M - A) (0 : Int)).map (Value.int .i64) := ⟨_, rfl⟩
          obtain ⟨CS, hCS⟩ : ∃ CS, CS = s.l.map (Value.int .i64) := ⟨_, rfl⟩
          rw [← hCV] at HFL hspl
          rw [← hCS] at hspl
          have lCV : CV.length = M := by rw [hCV, List.length_map]; exact hF.1
          have lCS : CS.length = s.n := by rw [hCS, List.length_map]; exact hS.len
          have oCS : ∀ v ∈ CS, v.oneCell' = true := by
            rw [hCS]; intro v hv; obtain ⟨y, _, rfl⟩ := List.mem_map.1 hv; rfl
          have gCS : ∀ j v, CS[j]? = some v → wr.cell? ⟨s.b, s.off + j, none⟩ = some v := by
            intro j v hv
            have hjn : j < s.n := by
              have := (List.getElem?_eq_some_iff.1 hv).1
              omega
            rw [hS.cel j hjn, ← hv, hCS]
            simp [List.getD_eq_getElem?_getD, hS.len, hjn]
          have HA := Lib.hid (show _ ∧ _ ∧ _ ∧ _ ∧ _ from ⟨hA2, hspl, lCS, gCS, oCS⟩)
          have HS := Lib.hid hS
          have HB2 := Lib.hid hB2
          have HL := Lib.hid HFL
          have HCV := Lib.hid lCV
          clear hA hA2 hl1 hspl hF hCV hCS hj hj2 lCS gCS oCS hS HFL lCV
          have z1 : IntKind.i64.wrap ((A : Int) + (s.n : Int)) = (A2 : Int) := by rw [IntKind.wrap_i64]; omega
          have z2 : (A : Int) ≤ (M : Int) := by omega
          by_cases hAM : A = M
          · obtain rfl := hAM
            go_wp2_with (with_reducible refine held (o := ⟨some 34, _, _, _, _, _⟩) ?_)
            unfold Held
            refine wpList_copy_splice rfl (.tmp 32) (.tmp 33) _ _ rfl 3 Try.underlying27 (by kernel_rfl) _ _ _ _ _ _ rfl rfl gg A CV 3 HL.out CS (HA.out.2.2.1.trans (Nat.min_eq_left (by omega)).symm) (fun h0 => ⟨by first | rfl | (exfalso; rw [HA.out.2.2.1] at h0; omega), _, HS.out.adr (by rw [← HA.out.2.2.1]; exact h0), fun j v hv => by rw [Go.WideShapes.add_plain]; exact HA.out.2.2.2.1 j v hv⟩) (by rw [HA.out.2.2.1, HCV.out]; omega) HA.out.2.2.2.2 w.heap.size w HB2.out (by omega) ?_
            intro w2 hG2 hB2
            rw [HA.out.2.2.1]
            go_wp2
            go_roundw
            case rel => exact ⟨k2 + 1, by omega, by rw [← HA.out.1]; go_num, by go_num, ⟨by rw [← HA.out.1, List.length_append, List.length_replicate, joinL_len xs HC.out.2, ← HA.out.1]; omega, by have := hG2.out; rw [HA.out.2.1] at this; rw [← HA.out.1]; exact this⟩, hB2⟩
            case measure => simp [intOf]; omega
          · have z3 : ¬ M = A := fun h => hAM h.symm
            have z4 : (M == A) = false := by simpa using z3
            go_wp2_with (with_reducible refine held (o := ⟨some 34, _, _, _, _, _⟩) ?_)
            unfold Held
            refine wpList_copy_splice rfl (.tmp 32) (.tmp 33) _ _ rfl 3 Try.underlying27 (by kernel_rfl) _ _ _ _ _ _ rfl rfl gg A CV 3 HL.out CS (HA.out.2.2.1.trans (Nat.min_eq_left (by omega)).symm) (fun h0 => ⟨by first | rfl | (exfalso; rw [HA.out.2.2.1] at h0; omega), _, HS.out.adr (by rw [← HA.out.2.2.1]; exact h0), fun j v hv => by rw [Go.WideShapes.add_plain]; exact HA.out.2.2.2.1 j v hv⟩) (by rw [HA.out.2.2.1, HCV.out]; omega) HA.out.2.2.2.2 w.heap.size w HB2.out (by omega) ?_
            intro w2 hG2 hB2
            rw [HA.out.2.2.1]
            go_wp2
            go_roundw
            case rel => exact ⟨k2 + 1, by omega, by rw [← HA.out.1]; go_num, by go_num, ⟨by rw [← HA.out.1, List.length_append, List.length_replicate, joinL_len xs HC.out.2, ← HA.out.1]; omega, by have := hG2.out; rw [HA.out.2.1] at this; rw [← HA.out.1]; exact this⟩, hB2⟩
            case measure => simp [intOf]; omega
        · obtain rfl : k2 = k := by omega
          rw [show xs.take k2 = xs by rw [HN.out]; exact List.take_length] at hF
          have hJ : joinL xs k2 = xs.flatMap (·.l) := by unfold joinL; rw [show xs.take k2 = xs by rw [HN.out]; exact List.take_length]
          rw [hJ, ← HM.out, Nat.sub_self, List.replicate_zero, List.append_nil] at hF
          have hI := hF.ints (B := w.heap.size) (by omega) (by unfold maxLen; omega)
          go_wp2
          go_ret
          exact ⟨_, rfl, hI, hB2⟩

theorem concat_one (g : Nat) (a : Option Addr) (b off n cap : Nat) (l : List Int) (w : World) (hc : w.heap[g]? = some (.cells #[.slice a n cap] 27 (0, 0))) (hR : Row w a b off n l) (hn : n ≤ 1000000) :
    Calls Try.prog 35 #[.slice (some ⟨g, 0, none⟩) 1 1] w fun e w' => ∃ v, e = .returned v ∧ Ints w' w.heap.size v l ∧ Below w.heap.size w w' := by
  have h := concat_any g [⟨a, n, cap, b, off, l⟩] w (fun i hi => by
    obtain rfl : i = 0 := by simpa using hi
    have := blk_cell hc 0
    simpa [Sl.val] using this) (Array.getElem?_eq_some_iff.1 hc).1 (fun s hs => by obtain rfl := List.mem_singleton.1 hs; exact hR) (by simpa [lens] using hn) (by simp)
  simpa using h
theorem concat_three (g : Nat) (a1 a2 a3 : Option Addr) (b1 b2 b3 o1 o2 o3 n1 n2 n3 c1 c2 c3 : Nat) (l1 l2 l3 : List Int) (w : World) (hc : w.heap[g]? = some (.cells #[.slice a1 n1 c1, .slice a2 n2 c2, .slice a3 n3 c3] 27 (0, 0))) (h1 : Row w a1 b1 o1 n1 l1) (h2 : Row w a2 b2 o2 n2 l2) (h3 : Row w a3 b3 o3 n3 l3) (hn : n1 + n2 + n3 ≤ 1000000) :
    Calls Try.prog 35 #[.slice (some ⟨g, 0, none⟩) 3 3] w fun e w' => ∃ v, e = .returned v ∧ Ints w' w.heap.size v (l1 ++ l2 ++ l3) ∧ Below w.heap.size w w' := by
  have h := concat_any g [⟨a1, n1, c1, b1, o1, l1⟩, ⟨a2, n2, c2, b2, o2, l2⟩, ⟨a3, n3, c3, b3, o3, l3⟩] w (fun i hi => by
    have e0 := blk_cell hc 0
    have e1 := blk_cell hc 1
    have e2 := blk_cell hc 2
    have hi : i < 3 := hi
    rcases (show i = 0 ∨ i = 1 ∨ i = 2 by omega) with rfl | rfl | rfl
    · simpa [Sl.val] using e0
    · simpa [Sl.val] using e1
    · simpa [Sl.val] using e2) (Array.getElem?_eq_some_iff.1 hc).1 (fun s hs => by
    rcases List.mem_cons.1 hs with rfl | hs
    · exact h1
    rcases List.mem_cons.1 hs with rfl | hs
    · exact h2
    obtain rfl := List.mem_singleton.1 hs; exact h3) (by simp [lens]; omega) (by simp)
  simpa [List.append_assoc] using h
end Go.Proofs.Ytagikfiiljdpnaa
