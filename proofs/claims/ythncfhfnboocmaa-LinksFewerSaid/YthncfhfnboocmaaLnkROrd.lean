/- The reference's Order (layer 13). -/
import Derived.Test.YthncfhfnboocmaaLnkRCheck
import Derived.Test.YthncfhfnboocmaaLnkRReady
import Derived.Test.YthncfhfnboocmaaLnkOrd
namespace Go.Proofs.Ythncfhfnboocmaa
open Go.ChangeShapes Go.WideShapes Go.ChangeAt Go.RowKit

def lenV : Value → Nat
  | .slice _ n _ => n
  | _ => 0

set_option maxRecDepth 100000 in
set_option maxHeartbeats 8000000 in
theorem rOrder (m : Int) (a : Option Addr) (b off n cap : Nat) (l : List Jt) (w : World) (h : Js w a n b off l) (hn : n ≤ 9223372036854775807) :
    Calls Try.prog 14 #[.int .i64 m, .slice a n cap] w fun e w' => ∃ v, e = .returned (.tuple #[v, .int .i64 (chkL m l)]) ∧ Ints w' w.heap.size v (orderL m l) ∧ Below w.heap.size w w' := by
  have hl := h.1
  have HK := Lib.hid h
  clear h
  by_cases hc : chkL m l = 0
  case neg =>
    have EB := Lib.hid (show orderL m l = [] from if_neg hc)
    go_enter Try.func14, Try.ntmps14
    go_wp2_with fail
    refine (rCheck m a b off n cap l _ HK.out hn).mono ?_; rintro e w1 ⟨rfl, hB1⟩
    go_wp2
    go_ret2
    exact ⟨_, rfl, by rw [EB.out]; exact Ints.nil _ _, hB1⟩
  obtain ⟨hA, hn2, ⟨hok, hap⟩, hen⟩ := chkL_inv hc
  rw [hl] at hn2 hok hap
  obtain ⟨m, rfl⟩ : ∃ k : Nat, m = k := ⟨m.toNat, by omega⟩
  have EB := Lib.hid (show orderL (m : Int) l = ordL m l m by unfold orderL; rw [if_pos hc]; simp)
  obtain ⟨F, hF, hmk⟩ := mk_bools m (by omega)
  have hm256 : m ≤ 256 := by omega
  have hn256 : n ≤ 256 := by omega
  have HF := Lib.hid (show _ ∧ _ ∧ _ ∧ _ ∧ _ from ⟨hF, hA, hok, hap, hen⟩)
  clear hF hA hok hap hen
  go_enter Try.func14, Try.ntmps14
  go_wp2_with fail
  refine (rCheck (m : Int) a b off n cap l _ HK.out hn).mono ?_; rintro e w1 ⟨rfl, hB1⟩
  rw [hc]
  have z1 := hB1.size
  have hg := blk_new w1 (.cells F 4)
  have HB1 := Lib.hid (show _ ∧ _ from ⟨hB1.alloc z1 (.cells F 4), hg⟩)
  clear hB1 hg
  obtain ⟨g, hgd⟩ : ∃ g, g = w1.heap.size := ⟨_, rfl⟩
  go_wp2
  rw [← hgd] at HB1 z1 ⊢
  have HGD := Lib.hid hgd
  clear hgd
  go_loopw [8] (fun v wr => ∃ (k : Nat) (G : Array Value), k ≤ m ∧ Ints wr (g + 1) v (ordL m l k) ∧ wr.heap[g]? = some (.cells G 4 (0, 0)) ∧ (∀ q : Nat, q < m → G[q]? = some (.bool (decide ((q : Int) ∈ ordL m l k)))) ∧ g + 1 ≤ wr.heap.size ∧ Below w.heap.size w wr) (fun v _ => m - lenV v)
  case atStart => exact ⟨0, F, Nat.zero_le _, Ints.nil _ _, HB1.out.2, fun q hq => by rw [HF.out.1 q hq]; rfl, by rw [World.size_alloc, ← HGD.out]; exact Nat.le_refl _, HB1.out.1⟩
  case round =>
    obtain ⟨k, G, hk, hO, rg, hG, hz, hB⟩ := hrel
    obtain ⟨av, bv, cv, ev, _⟩ := hO.row
    rw [ordL_len] at ev
    subst ev
    by_cases hlt : k < m
    case neg =>
      obtain rfl : k = m := by omega
      have hO2 := hO.mono (B' := w.heap.size) (by omega)
      rw [← EB.out] at hO2
      clear hO rg hG
      go_wp2
      go_ret2
      exact ⟨_, by rw [hc]; rfl, hO2, hB⟩
    have i2 : (k : Int) < (m : Int) := by omega
    obtain ⟨hp1, hp2⟩ := nxt_lt hl HF.out.2.2.1 HF.out.2.2.2.1 HF.out.2.2.2.2 (lst := ordL m l k) (by rw [ordL_len]; exact hlt)
    have eo : ordL m l (k + 1) = ordL m l k ++ [(nxtL m l (ordL m l k) : Int)] := rfl
    have hcg : ∀ p : Nat, p < m → wr.cell? ⟨g, p, none⟩ = some (.bool (decide ((p : Int) ∈ ordL m l k))) := fun p hp => by rw [blk_cell rg p]; exact hG p hp
    have HR := Lib.hid (show _ ∧ _ ∧ _ ∧ _ ∧ _ ∧ _ from ⟨hO, rg, hG, hB, hcg, eo⟩)
    have HP := Lib.hid (show _ ∧ _ from ⟨hp1, hp2⟩)
    have hgr : g < wr.heap.size := by omega
    clear hO rg hG hB hcg eo hp1 hp2
    have HN2 := Lib.hid (show _ ∧ _ from ⟨hn256, hm256⟩)
    clear hmk hn hc hn256 hm256
    go_wp2_with fail
    go_loopw [9] (fun i ww => ∃ p : Nat, p ≤ nxtL m l (ordL m l k) ∧ i = .int .i64 p ∧ (∀ q : Nat, q < p → ¬ rdy l (ordL m l k) q) ∧ ww = wr) (fun i _ => m - (intOf i).toNat)
    case atStart => exact ⟨0, Nat.zero_le _, rfl, fun q hq => by omega, rfl⟩
    case round =>
      obtain ⟨p, hp, rfl, hno, rfl⟩ := hrel
      have hpm : p < m := Nat.lt_of_le_of_lt hp HP.out.1
      have up : IntKind.i64.wrap ((p : Int) + 1) = (p : Int) + 1 := wrap_id (by have := HN2.out.2; omega)
      by_cases hr : rdy l (ordL m l k) p
      · have er := rdyB_t hr
        have ep := nxtL_is hpm hr hno
        have HE := Lib.hid ep
        clear hr hno ep hp
        have i3 : (p : Int) < (m : Int) := by omega
        have cg := HR.out.2.2.2.2.1 p hpm
        have fg := blk_free HR.out.2.1 p
        have HO := Lib.hid (HR.out.1.setLow (g := g) (p := p) (u := .bool true) (by omega))
        go_wp2_with (first | (go_at_call 28; refine (rReady a b off n cap g m p l (ordL m l k) _ (HK.out.grown HR.out.2.2.2.1) HN2.out.1 HF.out.2.2.2.1 HF.out.2.2.1 hpm HR.out.2.2.2.2.1).mono ?_; rintro e' w' ⟨rfl, rfl⟩; rw [er]) | (at_builtin; refine wpList_append_int rfl _ _ rfl (g + 1) _ _ rfl (HO.out.alloc _) _ _ rfl _ _ (blkN (by rw [World.size_setCell])) (by rw [ordL_len m l k]; have := HN2.out.2; omega) (by rw [World.size_alloc, World.size_setCell]; omega) ?_; intro v' w3 hO3 hB3 hgx; clear hgx))
        have z3 := hB3.size
        rw [World.size_alloc, World.size_setCell] at z3
        have R3 := ord_mark HR.out.2.1 (Below.refl _ _) hB3 (by omega)
        have R5 := ((HR.out.2.2.2.1.setCell (p := ⟨g, p, none⟩) (by show w.heap.size ≤ g; omega) (.bool true)).alloc (by rw [World.size_setCell]; omega) (.cells #[.int .i64 (p : Int)] 3)).trans (hB3.mono (by omega))
        have R6 := ord_marks HR.out.2.2.1 hpm
        have e2 := HR.out.2.2.2.2.2
        rw [HE.out] at e2
        rw [← e2] at R6 hO3
        have HZ := Lib.hid (show _ ∧ _ ∧ _ ∧ _ from ⟨hO3, R3, R6, R5⟩)
        clear hO3 R3 R5 R6 e2 hB3 cg fg
        go_roundw
        case rel => exact ⟨k + 1, _, by omega, HZ.out.1, HZ.out.2.1, HZ.out.2.2.1, by omega, HZ.out.2.2.2⟩
        case measure => have := (HZ.out.1.row); obtain ⟨_, _, _, e9, _⟩ := this; rw [e9, ordL_len]; simp [lenV]; omega
      · have er := rdyB_f hr
        have HN := Lib.hid (show ∀ q : Nat, q < p + 1 → ¬ rdy l (ordL m l k) q from fun q hq => by
          by_cases e : q = p
          · subst e; exact hr
          · exact hno q (by omega))
        have hp2 : p + 1 ≤ nxtL m l (ordL m l k) := by
          rcases Nat.lt_or_ge p (nxtL m l (ordL m l k)) with c | c
          · exact c
          · exact absurd (show rdy l (ordL m l k) p by rw [show p = nxtL m l (ordL m l k) by omega]; exact HP.out.2) hr
        clear hr hno hp
        go_wp2_with (go_at_call 28; refine (rReady a b off n cap g m p l (ordL m l k) _ (HK.out.grown HR.out.2.2.2.1) HN2.out.1 HF.out.2.2.2.1 HF.out.2.2.1 hpm HR.out.2.2.2.2.1).mono ?_; rintro e' w' ⟨rfl, rfl⟩; rw [er])
        go_roundw
        case rel => exact ⟨p + 1, hp2, by go_num, HN.out, trivial⟩
        case measure => simp [intOf]; omega
end Go.Proofs.Ythncfhfnboocmaa
