/- The walk of FadesBack (layer 27). -/
import Derived.Test.YtagikfiiljdpnaaFadMath
namespace Go.Proofs.Ytagikfiiljdpnaa
open Go.ChangeShapes Go.WideShapes Go.ChangeAt Go.RowKit

theorem rev_snoc (l : List Int) (k : Nat) (hk : k < l.length) : (l.drop k).reverse = (l.drop (k + 1)).reverse ++ [l.getD k 0] := by
  rw [List.drop_eq_getElem_cons hk, List.reverse_cons]
  simp [List.getD_eq_getElem?_getD, hk]

theorem Ints.rowN {w : World} {B : Nat} {v : Value} {l : List Int} (h : Ints w B v l) : ∃ a b cap, v = .slice a l.length cap ∧ Row w a b 0 l.length l ∧ l.length ≤ cap ∧ (a = none → cap = 0) := by
  rcases h.2 with ⟨h0, hn⟩ | ⟨g, cap, cur, h1, h2, h3, h4, h5, h6, h7⟩
  · exact ⟨none, 0, 0, by rw [hn]; exact h0, ⟨rfl, fun h => by omega, fun h => by omega, fun i hi => by omega⟩, by omega, fun _ => rfl⟩
  · obtain ⟨a, b, c, e1, e2, e3, _⟩ := h.row
    refine ⟨a, b, c, e1, e2, e3, fun ha => ?_⟩
    rw [h1, ha] at e1
    cases e1

set_option maxHeartbeats 1000000 in
theorem back_any (a : Option Addr) (b off n cap : Nat) (l : List Int) (w : World) (hR : Row w a b off n l) (hn : n ≤ 1000000) :
    Calls Try.prog 22 #[.slice a n cap] w fun e w' => ∃ v, e = .returned v ∧ Ints w' w.heap.size v l.reverse ∧ Below w.heap.size w w' := by
  have HL := Lib.hid hR.len
  have HR := Lib.hid hR; clear hR
  have z0 : IntKind.i64.wrap ((n : Int) - 1) = (n : Int) - 1 := by rw [IntKind.wrap_i64]; omega
  go_enter Try.func22, Try.ntmps22
  go_wp2
  go_loopw [3, 4] (fun v i wr => ∃ k : Nat, k ≤ n ∧ i = .int .i64 ((k : Int) - 1) ∧ Ints wr w.heap.size v (l.drop k).reverse ∧ Below w.heap.size w wr) (fun _ i _ => (intOf i + 1).toNat)
  case atStart => exact ⟨n, Nat.le_refl _, rfl, by rw [List.drop_of_length_le (by rw [HL.out]; exact Nat.le_refl _)]; exact Ints.nil _ _, Below.refl _ _⟩
  case round =>
    obtain ⟨k, hk, rfl, hO, hB⟩ := hrel
    cases k with
    | succ j =>
      rw [show ((j + 1 : Nat) : Int) - 1 = (j : Int) by omega]
      obtain rfl := HR.out.adr (by omega)
      have hcell := (HR.out.below hB (Nat.le_refl _)).cel j (by omega)
      have hs := hB.size
      have hT := rev_snoc l j (by have := HL.out; omega)
      have hlen : (l.drop (j + 1)).reverse.length = n - (j + 1) := by rw [List.length_reverse, List.length_drop, HL.out]
      have z1 : IntKind.i64.wrap ((j : Int) - 1) = (j : Int) - 1 := by rw [IntKind.wrap_i64]; omega
      have z2 : (j : Int) < (n : Int) := by omega
      generalize (l.drop (j + 1)).reverse = LL at *
      generalize l.getD j 0 = x at *
      have HT := Lib.hid (show _ ∧ _ from ⟨hT, hlen⟩); clear hT hlen
      have HB := Lib.hid hB; clear hB
      go_wp2_with (at_builtin; refine wpList_append_int rfl _ _ rfl w.heap.size _ _ rfl (hO.alloc _) _ _ rfl _ _ (blk_new _ _) (by rw [HT.out.2]; omega) (by simp; omega) ?_; intro v' w1 hO1 hB1 hgx; clear hgx)
      have HO1 := Lib.hid hO1; clear hO1
      go_roundw
      case rel => exact ⟨j, by omega, rfl, by rw [HT.out.1]; exact HO1.out, (HB.out.alloc hs _).trans hB1⟩
      case measure => simp [intOf]
    | zero =>
      rw [List.drop_zero] at hO
      go_wp2
      go_ret
      exact ⟨_, rfl, hO, hB⟩

set_option maxHeartbeats 2000000 in
theorem fadesBack_walk (a b : Option Addr) (ab ao bb bo an bn ac bc : Nat) (n : Int) (la lb : List Int) (w : World) (hRa : Row w a ab ao an la) (hRb : Row w b bb bo bn lb) (hac : an ≤ ac) (hbc : bn ≤ bc) (hna : a = none → ac = 0) (hnb : b = none → bc = 0) :
    Calls Try.prog 7 #[.slice a an ac, .slice b bn bc, .int .i64 n] w fun e w' => e = .returned (.bool true) ∧ Below w.heap.size w w' := by
  have HL := Lib.hid (show _ ∧ _ from ⟨hRa.len, hRb.len⟩)
  generalize hx : crE an bn n = x
  generalize hy : fE an n = y
  have HX := Lib.hid (show _ ∧ _ from ⟨hx, hy⟩); clear hx hy
  go_enter Try.func7, Try.ntmps7
  go_wp2_with fail
  refine (sane_any w).mono ?_; rintro e w1 ⟨rfl, hB⟩
  replace hRa := hRa.below hB (Nat.le_refl _)
  replace hRb := hRb.below hB (Nat.le_refl _)
  go_wp2_with fail
  refine (rfew_any _ _ _ _).mono ?_; rintro e w' ⟨rfl, rfl⟩
  by_cases hf : (an : Int) ≤ 1000
  · rw [decide_eq_true hf]
    go_wp2_with fail
    refine (rfew_any _ _ _ _).mono ?_; rintro e w' ⟨rfl, rfl⟩
    by_cases hf2 : (bn : Int) ≤ 1000
    · rw [decide_eq_true hf2]
      have lra : la.reverse.length = an := by rw [List.length_reverse]; exact HL.out.1
      have lrb : lb.reverse.length = bn := by rw [List.length_reverse]; exact HL.out.2
      have o1 := outR_len la an n HL.out.1 (by omega)
      have c1 := crR_len la lb an bn n HL.out.1 HL.out.2 (by omega) (by omega)
      have oB := outR_back la an n HL.out.1
      have cB := crR_back la lb an bn n HL.out.1 HL.out.2
      have i1 := inR_len la.reverse an n lra (by omega)
      have c2 := crR_len lb.reverse la.reverse bn an n lrb lra (by omega) (by omega)
      generalize ho : outR la an n = lo at *
      generalize hi : inR la.reverse an n = li at *
      generalize hc : crR la lb an bn n = lc at *
      generalize hd : crR lb.reverse la.reverse bn an n = ld at *
      have HIO := Lib.hid (show _ ∧ _ ∧ _ ∧ _ from ⟨ho, hi, hc, hd⟩); clear ho hi hc hd
      have HBB := Lib.hid (show _ ∧ _ ∧ _ ∧ _ from ⟨oB, cB, lra, lrb⟩); clear oB cB lra lrb
      go_wp2_with fail
      refine (out_all a ab ao an ac n la _ hRa (by omega)).mono ?_; rintro e w2 ⟨v, rfl, hO, hb⟩; rw [HX.out.2]; rw [HIO.out.1] at hO
      obtain ⟨a2, b2, d2, rfl, R2, -, -⟩ := hO.row
      replace hRa := hRa.below hb (Nat.le_refl _)
      replace hRb := hRb.below hb (Nat.le_refl _)
      replace hB := below_after hB hb hB.size
      clear hb hO
      go_wp2_with fail
      refine (back_any a ab ao an ac la _ hRa (by omega)).mono ?_; rintro e w3 ⟨v, rfl, hO, hb⟩
      obtain ⟨a3, b3, d3, rfl, R3, -, -⟩ := hO.row
      rw [HBB.out.2.2.1] at R3 ⊢
      replace hRa := hRa.below hb (Nat.le_refl _)
      replace hRb := hRb.below hb (Nat.le_refl _)
      replace R2 := R2.below hb (Nat.le_refl _)
      replace hB := below_after hB hb hB.size
      clear hb hO
      go_wp2_with fail
      refine (in_all a3 b3 0 an d3 n la.reverse _ R3 (by omega)).mono ?_; rintro e w4 ⟨v, rfl, hO, hb⟩; rw [HX.out.2]; rw [HIO.out.2.1] at hO
      obtain ⟨a4, b4, d4, rfl, R4, -, -⟩ := hO.row
      replace hRa := hRa.below hb (Nat.le_refl _)
      replace hRb := hRb.below hb (Nat.le_refl _)
      replace R2 := R2.below hb (Nat.le_refl _)
      replace hB := below_after hB hb hB.size
      clear hb hO R3
      go_wp2_with fail
      refine (back_any a4 b4 0 _ d4 li _ R4 (by omega)).mono ?_; rintro e w5 ⟨v, rfl, hO, hb⟩
      rw [← HBB.out.1] at hO
      obtain ⟨a5, b5, d5, rfl, R5, -, -⟩ := hO.row
      replace hRa := hRa.below hb (Nat.le_refl _)
      replace hRb := hRb.below hb (Nat.le_refl _)
      replace R2 := R2.below hb (Nat.le_refl _)
      replace hB := below_after hB hb hB.size
      clear hb hO R4
      go_wp2_with fail
      refine (same_any _ _ _ _ _ _ _ _ _ _ _ _ _ R2 R5 (by omega) (by omega) rfl).mono ?_; rintro e w6 ⟨rfl, hb⟩
      replace hRa := hRa.below hb (Nat.le_refl _)
      replace hRb := hRb.below hb (Nat.le_refl _)
      replace hB := below_after hB hb hB.size
      clear hb R2 R5
      go_wp2_with fail
      refine (cross_all a b ab ao bb bo an bn ac bc n la lb _ hRa hRb (by omega) hac hbc hna hnb).mono ?_; rintro e w7 ⟨v, rfl, hO, hb⟩; rw [HX.out.1]; rw [HIO.out.2.2.1] at hO
      obtain ⟨a7, b7, d7, rfl, R7, -, -⟩ := hO.row
      replace hRa := hRa.below hb (Nat.le_refl _)
      replace hRb := hRb.below hb (Nat.le_refl _)
      replace hB := below_after hB hb hB.size
      clear hb hO
      go_wp2_with fail
      refine (back_any b bb bo bn bc lb _ hRb (by omega)).mono ?_; rintro e w8 ⟨v, rfl, hO, hb⟩
      obtain ⟨a8, b8, d8, rfl, R8, hd8, hn8⟩ := hO.rowN
      rw [HBB.out.2.2.2] at R8 hd8 ⊢
      replace hRa := hRa.below hb (Nat.le_refl _)
      replace R7 := R7.below hb (Nat.le_refl _)
      replace hB := below_after hB hb hB.size
      clear hb hO hRb
      go_wp2_with fail
      refine (back_any a ab ao an ac la _ hRa (by omega)).mono ?_; rintro e w9 ⟨v, rfl, hO, hb⟩
      obtain ⟨a9, b9, d9, rfl, R9, hd9, hn9⟩ := hO.rowN
      rw [HBB.out.2.2.1] at R9 hd9 ⊢
      replace R8 := R8.below hb (Nat.le_refl _)
      replace R7 := R7.below hb (Nat.le_refl _)
      replace hB := below_after hB hb hB.size
      clear hb hO hRa
      go_wp2_with fail
      refine (cross_all a8 a9 b8 0 b9 0 bn an d8 d9 n lb.reverse la.reverse _ R8 R9 (by omega) hd8 hd9 hn8 hn9).mono ?_; rintro e w10 ⟨v, rfl, hO, hb⟩; rw [crE_comm, HX.out.1]; rw [HIO.out.2.2.2] at hO
      obtain ⟨a10, b10, d10, rfl, R10, -, -⟩ := hO.row
      replace R7 := R7.below hb (Nat.le_refl _)
      replace hB := below_after hB hb hB.size
      clear hb hO R8 R9
      go_wp2_with fail
      refine (back_any a10 b10 0 _ d10 ld _ R10 (by omega)).mono ?_; rintro e w11 ⟨v, rfl, hO, hb⟩
      rw [← HBB.out.2.1] at hO
      obtain ⟨a11, b11, d11, rfl, R11, -, -⟩ := hO.row
      replace R7 := R7.below hb (Nat.le_refl _)
      replace hB := below_after hB hb hB.size
      clear hb hO R10
      go_wp2_with fail
      refine (same_any _ _ _ _ _ _ _ _ _ _ _ _ _ R7 R11 (by omega) (by omega) rfl).mono ?_; rintro e w12 ⟨rfl, hb⟩
      replace hB := below_after hB hb hB.size
      clear hb R7 R11
      go_wp2
      go_ret
      exact ⟨rfl, hB⟩
    · rw [decide_eq_false hf2]
      go_wp2
      go_ret
      exact ⟨rfl, hB⟩
  · rw [decide_eq_false hf]
    go_wp2
    go_ret
    exact ⟨rfl, hB⟩
end Go.Proofs.Ytagikfiiljdpnaa
