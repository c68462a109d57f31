/- The walks of FadesGainSpec, FadesSpec and FadesCrossSpec (layer 27). -/
import Derived.Test.YtagikfiiljdpnaaFadSane
namespace Go.Proofs.Ytagikfiiljdpnaa
open Go.ChangeShapes Go.WideShapes Go.ChangeAt Go.RowKit

def fE (len n : Int) : Int := if FOk len n then 0 else 1
def inR (l : List Int) (len : Nat) (n : Int) : List Int := if FOk len n then fdL l n.toNat (fun i => i) n.toNat else []
def outR (l : List Int) (len : Nat) (n : Int) : List Int := if FOk len n then fdL l n.toNat (fun i => len - 1 - i) n.toNat else []
def crE (an bn n : Int) : Int := if FOk an n ∧ FOk bn n then 0 else 1
def crR (la lb : List Int) (an bn : Nat) (n : Int) : List Int := if FOk an n ∧ FOk bn n then crossL la lb (an - n.toNat) n.toNat else []
theorem inR_len (l : List Int) (len : Nat) (n : Int) (hl : l.length = len) (hb : len ≤ 1000) : (inR l len n).length ≤ 1000 := by
  unfold inR; split
  · rw [fdL_len]; omega
  · simp
theorem outR_len (l : List Int) (len : Nat) (n : Int) (hl : l.length = len) (hb : len ≤ 1000) : (outR l len n).length ≤ 1000 := by
  unfold outR; split
  · rw [fdL_len]; omega
  · simp
theorem crossL_len (la lb : List Int) (st M : Nat) (h1 : st ≤ la.length) (h2 : M ≤ lb.length) : (crossL la lb st M).length = st + lb.length := by
  unfold crossL; simp; omega
theorem crR_len (la lb : List Int) (an bn : Nat) (n : Int) (ha : la.length = an) (hb : lb.length = bn) (h1 : an ≤ 1000) (h2 : bn ≤ 1000) : (crR la lb an bn n).length ≤ 2000 := by
  unfold crR; split
  · rename_i h
    obtain ⟨⟨_, _, _⟩, _, _, _⟩ := h
    rw [crossL_len _ _ _ _ (by omega) (by omega)]; omega
  · simp

theorem in_all (a : Option Addr) (b off len cap : Nat) (n : Int) (l : List Int) (w : World) (hR : Row w a b off len l) (hl : len ≤ 1000000) :
    Calls Try.prog 14 #[.slice a len cap, .int .i64 n] w fun e w' => ∃ v, e = .returned (.tuple #[v, .int .i64 (fE len n)]) ∧ Ints w' w.heap.size v (inR l len n) ∧ Below w.heap.size w w' := by
  unfold fE inR
  by_cases h : FOk len n
  · rw [if_pos h, if_pos h]
    obtain ⟨h1, h2, h3⟩ := h
    obtain ⟨k, rfl⟩ := Int.eq_ofNat_of_zero_le h2
    exact in_ok a b off len cap k l w hR (by omega) hl
  · rw [if_neg h, if_neg h]
    exact (in_no a len cap n w h).mono fun e w' hh => ⟨_, hh.1, Ints.nil _ _, by rw [← hh.2]; exact Below.refl _ _⟩
theorem out_all (a : Option Addr) (b off len cap : Nat) (n : Int) (l : List Int) (w : World) (hR : Row w a b off len l) (hl : len ≤ 1000000) :
    Calls Try.prog 16 #[.slice a len cap, .int .i64 n] w fun e w' => ∃ v, e = .returned (.tuple #[v, .int .i64 (fE len n)]) ∧ Ints w' w.heap.size v (outR l len n) ∧ Below w.heap.size w w' := by
  unfold fE outR
  by_cases h : FOk len n
  · rw [if_pos h, if_pos h]
    obtain ⟨h1, h2, h3⟩ := h
    obtain ⟨k, rfl⟩ := Int.eq_ofNat_of_zero_le h2
    exact out_ok a b off len cap k l w hR (by omega) hl
  · rw [if_neg h, if_neg h]
    exact (out_no a len cap n w h).mono fun e w' hh => ⟨_, hh.1, Ints.nil _ _, hh.2⟩
theorem rin_all (a : Option Addr) (b off len cap : Nat) (n : Int) (l : List Int) (w : World) (hR : Row w a b off len l) (hl : len ≤ 1000000) (hnc : a = none → cap = 0) :
    Calls Try.prog 15 #[.slice a len cap, .int .i64 n] w fun e w' => ∃ v, e = .returned (.tuple #[v, .int .i64 (fE len n)]) ∧ Ints w' w.heap.size v (inR l len n) ∧ Below w.heap.size w w' := by
  unfold fE inR
  by_cases h : FOk len n
  · rw [if_pos h, if_pos h]
    obtain ⟨h1, h2, h3⟩ := h
    obtain ⟨k, rfl⟩ := Int.eq_ofNat_of_zero_le h2
    exact rin_ok a b off len cap k l w hR (by omega) hl hnc
  · rw [if_neg h, if_neg h]
    exact (rin_no a len cap n w h).mono fun e w' hh => ⟨_, hh.1, Ints.nil _ _, by rw [← hh.2]; exact Below.refl _ _⟩
theorem rout_all (a : Option Addr) (b off len cap : Nat) (n : Int) (l : List Int) (w : World) (hR : Row w a b off len l) (hl : len ≤ 1000000) (hnc : a = none → cap = 0) :
    Calls Try.prog 17 #[.slice a len cap, .int .i64 n] w fun e w' => ∃ v, e = .returned (.tuple #[v, .int .i64 (fE len n)]) ∧ Ints w' w.heap.size v (outR l len n) ∧ Below w.heap.size w w' := by
  unfold fE outR
  by_cases h : FOk len n
  · rw [if_pos h, if_pos h]
    obtain ⟨h1, h2, h3⟩ := h
    obtain ⟨k, rfl⟩ := Int.eq_ofNat_of_zero_le h2
    exact rout_ok a b off len cap k l w hR (by omega) hl hnc
  · rw [if_neg h, if_neg h]
    exact (rout_no a len cap n w h).mono fun e w' hh => ⟨_, hh.1, Ints.nil _ _, by rw [← hh.2]; exact Below.refl _ _⟩
theorem cross_all (a b : Option Addr) (ab ao bb bo an bn ac bc : Nat) (n : Int) (la lb : List Int) (w : World) (hRa : Row w a ab ao an la) (hRb : Row w b bb bo bn lb) (hn : an + bn ≤ 1000000) (hac : an ≤ ac) (hbc : bn ≤ bc) (hna : a = none → ac = 0) (hnb : b = none → bc = 0) :
    Calls Try.prog 19 #[.slice a an ac, .slice b bn bc, .int .i64 n] w fun e w' => ∃ v, e = .returned (.tuple #[v, .int .i64 (crE an bn n)]) ∧ Ints w' w.heap.size v (crR la lb an bn n) ∧ Below w.heap.size w w' := by
  unfold crE crR
  by_cases h : FOk an n ∧ FOk bn n
  · rw [if_pos h, if_pos h]
    obtain ⟨⟨h1, h2, h3⟩, ⟨h4, h5, h6⟩⟩ := h
    obtain ⟨k, rfl⟩ := Int.eq_ofNat_of_zero_le h2
    exact cross_ok a b ab ao bb bo an bn ac bc k la lb w hRa hRb (by omega) (by omega) hn hac hbc hna hnb
  · rw [if_neg h, if_neg h]
    exact (cross_no a b an ac bn bc n w h).mono fun e w' hh => ⟨_, hh.1, Ints.nil _ _, hh.2⟩
theorem rcross_all (a b : Option Addr) (ab ao bb bo an bn ac bc : Nat) (n : Int) (la lb : List Int) (w : World) (hRa : Row w a ab ao an la) (hRb : Row w b bb bo bn lb) (hn : an + bn ≤ 1000000) (hac : an ≤ ac) (hbc : bn ≤ bc) (hna : a = none → ac = 0) (hnb : b = none → bc = 0) :
    Calls Try.prog 20 #[.slice a an ac, .slice b bn bc, .int .i64 n] w fun e w' => ∃ v, e = .returned (.tuple #[v, .int .i64 (crE an bn n)]) ∧ Ints w' w.heap.size v (crR la lb an bn n) ∧ Below w.heap.size w w' := by
  unfold crE crR
  by_cases h : FOk an n ∧ FOk bn n
  · rw [if_pos h, if_pos h]
    obtain ⟨⟨h1, h2, h3⟩, ⟨h4, h5, h6⟩⟩ := h
    obtain ⟨k, rfl⟩ := Int.eq_ofNat_of_zero_le h2
    exact rcross_ok a b ab ao bb bo an bn ac bc k la lb w hRa hRb (by omega) (by omega) hn hac hbc hna hnb
  · rw [if_neg h, if_neg h]
    exact (rcross_no a b an ac bn bc n w h).mono fun e w' hh => ⟨_, hh.1, Ints.nil _ _, by rw [← hh.2]; exact Below.refl _ _⟩

theorem fadesGainSpec_walk (i n : Int) (w : World) :
    Calls Try.prog 3 #[.int .i64 i, .int .i64 n] w fun e w' => e = .returned (.bool true) ∧ Below w.heap.size w w' := by
  generalize hr : gnR i n = r
  generalize he : gnE i n = x
  go_enter Try.func3, Try.ntmps3
  go_wp2_with fail
  refine (sane_any w).mono ?_; rintro e w1 ⟨rfl, hB⟩
  go_wp2_with fail
  refine (fgain_any _ _ _).mono ?_; rintro e w' ⟨rfl, rfl⟩; rw [hr, he]
  go_wp2_with fail
  refine (rfgain_any _ _ _).mono ?_; rintro e w' ⟨rfl, rfl⟩; rw [hr, he]
  go_wp2
  go_ret
  exact ⟨rfl, hB⟩

set_option maxHeartbeats 1000000 in
theorem fadesSpec_walk (a : Option Addr) (b off len cap : Nat) (n : Int) (l : List Int) (w : World) (hR : Row w a b off len l) (hnc : a = none → cap = 0) :
    Calls Try.prog 4 #[.slice a len cap, .int .i64 n] w fun e w' => e = .returned (.bool true) ∧ Below w.heap.size w w' := by
  have HL := Lib.hid hR.len
  generalize hx : fE len n = x
  have HX := Lib.hid hx; clear hx
  go_enter Try.func4, Try.ntmps4
  go_wp2_with fail
  refine (sane_any w).mono ?_; rintro e w1 ⟨rfl, hB⟩
  replace hR := hR.below hB (Nat.le_refl _)
  go_wp2_with fail
  refine (rfew_any _ _ _ _).mono ?_; rintro e w' ⟨rfl, rfl⟩
  by_cases hf : (len : Int) ≤ 1000
  · rw [decide_eq_true hf]
    have i1 := inR_len l len n HL.out (by omega)
    have o1 := outR_len l len n HL.out (by omega)
    generalize hi : inR l len n = li at i1
    generalize ho : outR l len n = lo at o1
    have HIO := Lib.hid (show _ ∧ _ from ⟨hi, ho⟩); clear hi ho
    go_wp2_with fail
    refine (in_all a b off len cap n l _ hR (by omega)).mono ?_; rintro e w2 ⟨v, rfl, hO, hb⟩; rw [HX.out]; rw [HIO.out.1] at hO
    obtain ⟨a2, b2, c2, rfl, R2, -, -⟩ := hO.row
    replace hR := hR.below hb (Nat.le_refl _)
    replace hB := below_after hB hb hB.size
    clear hb hO
    go_wp2_with fail
    refine (rin_all a b off len cap n l _ hR (by omega) hnc).mono ?_; rintro e w3 ⟨v, rfl, hO, hb⟩; rw [HX.out]; rw [HIO.out.1] at hO
    obtain ⟨a3, b3, c3, rfl, R3, -, -⟩ := hO.row
    replace hR := hR.below hb (Nat.le_refl _)
    replace R2 := R2.below hb (Nat.le_refl _)
    replace hB := below_after hB hb hB.size
    clear hb hO
    go_wp2_with fail
    refine (out_all a b off len cap n l _ hR (by omega)).mono ?_; rintro e w4 ⟨v, rfl, hO, hb⟩; rw [HX.out]; rw [HIO.out.2] at hO
    obtain ⟨a4, b4, c4, rfl, R4, -, -⟩ := hO.row
    replace hR := hR.below hb (Nat.le_refl _)
    replace R2 := R2.below hb (Nat.le_refl _)
    replace R3 := R3.below hb (Nat.le_refl _)
    replace hB := below_after hB hb hB.size
    clear hb hO
    go_wp2_with fail
    refine (rout_all a b off len cap n l _ hR (by omega) hnc).mono ?_; rintro e w5 ⟨v, rfl, hO, hb⟩; rw [HX.out]; rw [HIO.out.2] at hO
    obtain ⟨a5, b5, c5, rfl, R5, -, -⟩ := hO.row
    replace R2 := R2.below hb (Nat.le_refl _)
    replace R3 := R3.below hb (Nat.le_refl _)
    replace R4 := R4.below hb (Nat.le_refl _)
    replace hB := below_after hB hb hB.size
    clear hb hO hR
    go_wp2_with fail
    refine (same_any _ _ _ _ _ _ _ _ _ _ _ _ _ R2 R3 (by omega) (by omega) rfl).mono ?_; rintro e w6 ⟨rfl, hb⟩
    replace R4 := R4.below hb (Nat.le_refl _)
    replace R5 := R5.below hb (Nat.le_refl _)
    replace hB := below_after hB hb hB.size
    clear hb R2 R3
    go_wp2_with fail
    refine (same_any _ _ _ _ _ _ _ _ _ _ _ _ _ R4 R5 (by omega) (by omega) rfl).mono ?_; rintro e w7 ⟨rfl, hb⟩
    replace hB := below_after hB hb hB.size
    clear hb R4 R5
    go_wp2
    go_ret
    exact ⟨rfl, hB⟩
  · rw [decide_eq_false hf]
    go_wp2
    go_ret
    exact ⟨rfl, hB⟩

set_option maxHeartbeats 1000000 in
theorem fadesCrossSpec_walk (a b : Option Addr) (ab ao bb bo an bn ac bc : Nat) (n : Int) (la lb : List Int) (w : World) (hRa : Row w a ab ao an la) (hRb : Row w b bb bo bn lb) (hac : an ≤ ac) (hbc : bn ≤ bc) (hna : a = none → ac = 0) (hnb : b = none → bc = 0) :
    Calls Try.prog 5 #[.slice a an ac, .slice b bn bc, .int .i64 n] w fun e w' => e = .returned (.bool true) ∧ Below w.heap.size w w' := by
  have HL := Lib.hid (show _ ∧ _ from ⟨hRa.len, hRb.len⟩)
  generalize hx : crE an bn n = x
  have HX := Lib.hid hx; clear hx
  go_enter Try.func5, Try.ntmps5
  go_wp2_with fail
  refine (sane_any w).mono ?_; rintro e w1 ⟨rfl, hB⟩
  replace hRa := hRa.below hB (Nat.le_refl _)
  replace hRb := hRb.below hB (Nat.le_refl _)
  go_wp2_with fail
  refine (rfew_any _ _ _ _).mono ?_; rintro e w' ⟨rfl, rfl⟩
  by_cases hf : (an : Int) ≤ 1000
  · rw [decide_eq_true hf]
    go_wp2_with fail
    refine (rfew_any _ _ _ _).mono ?_; rintro e w' ⟨rfl, rfl⟩
    by_cases hf2 : (bn : Int) ≤ 1000
    · rw [decide_eq_true hf2]
      have i1 := crR_len la lb an bn n HL.out.1 HL.out.2 (by omega) (by omega)
      generalize hi : crR la lb an bn n = li at i1
      have HIO := Lib.hid hi; clear hi
      go_wp2_with fail
      refine (cross_all a b ab ao bb bo an bn ac bc n la lb _ hRa hRb (by omega) hac hbc hna hnb).mono ?_; rintro e w2 ⟨v, rfl, hO, hb⟩; rw [HX.out]; rw [HIO.out] at hO
      obtain ⟨a2, b2, c2, rfl, R2, -, -⟩ := hO.row
      replace hRa := hRa.below hb (Nat.le_refl _)
      replace hRb := hRb.below hb (Nat.le_refl _)
      replace hB := below_after hB hb hB.size
      clear hb hO
      go_wp2_with fail
      refine (rcross_all a b ab ao bb bo an bn ac bc n la lb _ hRa hRb (by omega) hac hbc hna hnb).mono ?_; rintro e w3 ⟨v, rfl, hO, hb⟩; rw [HX.out]; rw [HIO.out] at hO
      obtain ⟨a3, b3, c3, rfl, R3, -, -⟩ := hO.row
      replace R2 := R2.below hb (Nat.le_refl _)
      replace hB := below_after hB hb hB.size
      clear hb hO hRa hRb
      go_wp2_with fail
      refine (same_any _ _ _ _ _ _ _ _ _ _ _ _ _ R2 R3 (by omega) (by omega) rfl).mono ?_; rintro e w6 ⟨rfl, hb⟩
      replace hB := below_after hB hb hB.size
      clear hb R2 R3
      go_wp2
      go_ret
      exact ⟨rfl, hB⟩
    · rw [decide_eq_false hf2]
      go_wp2
      go_ret
      exact ⟨rfl, hB⟩
  · rw [decide_eq_false hf]
    go_wp2
    go_ret
    exact ⟨rfl, hB⟩
end Go.Proofs.Ytagikfiiljdpnaa
