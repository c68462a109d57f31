/- The reference's ready (layer 13). -/
import Derived.Test.YthncfhfnboocmaaLnkRLink
namespace Go.Proofs.Ythncfhfnboocmaa
open Go.ChangeShapes Go.WideShapes Go.ChangeAt Go.RowKit

noncomputable def rdyB (l : List Jt) (lst : List Int) (p : Int) : Bool := by classical exact if rdy l lst p then true else false
theorem rdyB_t {l : List Jt} {lst : List Int} {p : Int} (h : rdy l lst p) : rdyB l lst p = true := if_pos h
theorem rdyB_f {l : List Jt} {lst : List Int} {p : Int} (h : ¬ rdy l lst p) : rdyB l lst p = false := if_neg h

theorem bk_zero0 {l : List Jt} {n : Nat} (hl : l.length = n) {p : Int} (h : srcN l p n = 0) : bk l p = none := by subst hl; unfold bk; rw [if_pos h]

set_option maxRecDepth 100000 in
set_option maxHeartbeats 4000000 in
theorem rReady (a : Option Addr) (b off n cap g m p : Nat) (l : List Jt) (lst : List Int) (w : World) (h : Js w a n b off l) (hn : n ≤ 256) (hap : apart l n) (hok : okJs (m : Int) l n) (hp : p < m)
    (hc : ∀ p : Nat, p < m → w.cell? ⟨g, p, none⟩ = some (.bool (decide ((p : Int) ∈ lst)))) :
    Calls Try.prog 28 #[.slice a n cap, .slice (some ⟨g, 0, none⟩) m m, .int .i64 (p : Int)] w fun e w' => e = .returned (.bool (rdyB l lst p)) ∧ w' = w := by
  have hl := h.1
  have cg := hc p hp
  have i2 : (p : Int) < (m : Int) := by omega
  have HK := Lib.hid (show _ ∧ _ ∧ _ ∧ _ from ⟨h, hap, hok, hc⟩)
  clear h hap hok hc
  by_cases hin : (p : Int) ∈ lst
  · have EB := Lib.hid (rdyB_f (l := l) (lst := lst) (p := p) (fun g => g.1 hin))
    rw [decide_eq_true hin] at cg
    clear hin
    go_enter Try.func28, Try.ntmps28
    go_wp2
    go_ret
    exact ⟨by rw [EB.out]; rfl, rfl⟩
  rw [decide_eq_false hin] at cg
  by_cases e0 : srcN l p n = 0
  · have EB := Lib.hid (rdyB_t (l := l) (lst := lst) (p := p) ⟨hin, fun f hf => by rw [bk_zero0 hl e0] at hf; cases hf⟩)
    have ez : (srcN l (p : Int) n : Int) - 1 = -1 := by omega
    clear hin e0
    go_enter Try.func28, Try.ntmps28
    go_wp2_with (go_at_call 30; refine (rLink a b off n cap l p _ HK.out.1 hn HK.out.2.1).mono ?_; rintro e' w' ⟨rfl, rfl⟩; rw [ez])
    go_ret
    exact ⟨by rw [EB.out]; rfl, rfl⟩
  have hle := srcN_le l p n
  obtain ⟨q, hq⟩ : ∃ q : Nat, srcN l p n = q + 1 := ⟨srcN l p n - 1, by omega⟩
  have ez : (srcN l (p : Int) n : Int) - 1 = (q : Int) := by omega
  have hbk : bk l p = some (nthJ l q).1 := by
    unfold bk
    rw [hl, if_neg e0, hq, Nat.add_sub_cancel]
  obtain ⟨rfl, hbw⟩ := HK.out.1.2.1 (by omega)
  obtain ⟨c0, c1, c2, c3, c4⟩ := HK.out.1.2.2 q (by omega)
  have hf := (HK.out.2.2.1 q (by omega)).2.1
  have i3 : (q : Int) < (n : Int) := by omega
  clear c1 c2 c3 c4 e0 hq hle
  generalize (nthJ l q).1 = f at *
  obtain ⟨f, rfl⟩ : ∃ k : Nat, f = k := ⟨f.toNat, by omega⟩
  have cf := HK.out.2.2.2 f (by omega)
  have i4 : (f : Int) < (m : Int) := hf.2
  by_cases hfin : (f : Int) ∈ lst
  · have EB := Lib.hid (rdyB_t (l := l) (lst := lst) (p := p) ⟨hin, fun f' hf' => by rw [hbk] at hf'; cases hf'; exact hfin⟩)
    rw [decide_eq_true hfin] at cf
    clear hin hbk hfin hf
    go_enter Try.func28, Try.ntmps28
    go_wp2_with (go_at_call 30; refine (rLink _ b off n cap l p _ HK.out.1 hn HK.out.2.1).mono ?_; rintro e' w' ⟨rfl, rfl⟩; rw [ez])
    go_ret
    exact ⟨by rw [EB.out]; rfl, rfl⟩
  · have EB := Lib.hid (rdyB_f (l := l) (lst := lst) (p := p) (fun g => hfin (g.2 _ hbk)))
    rw [decide_eq_false hfin] at cf
    clear hin hbk hfin hf
    go_enter Try.func28, Try.ntmps28
    go_wp2_with (go_at_call 30; refine (rLink _ b off n cap l p _ HK.out.1 hn HK.out.2.1).mono ?_; rintro e' w' ⟨rfl, rfl⟩; rw [ez])
    go_ret
    exact ⟨by rw [EB.out]; rfl, rfl⟩
end Go.Proofs.Ythncfhfnboocmaa
