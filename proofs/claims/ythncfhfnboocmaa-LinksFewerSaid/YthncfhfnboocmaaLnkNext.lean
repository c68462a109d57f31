/- The closure links.Order$1: the next parameter (layer 13). -/
import Derived.Test.YthncfhfnboocmaaLnkCheck
namespace Go.Proofs.Ythncfhfnboocmaa
open Go.ChangeShapes Go.WideShapes Go.ChangeAt Go.RowKit

noncomputable def nxtL (m : Nat) (l : List Jt) (lst : List Int) : Nat := by
  classical exact if h : ∃ p : Nat, p < m ∧ rdy l lst p ∧ ∀ q : Nat, q < p → ¬ rdy l lst q then h.choose else m
theorem nxtL_is {m : Nat} {l : List Jt} {lst : List Int} {p : Nat} (hp : p < m) (h : rdy l lst p) (hq : ∀ q : Nat, q < p → ¬ rdy l lst q) : nxtL m l lst = p := by
  have hx : ∃ p : Nat, p < m ∧ rdy l lst p ∧ ∀ q : Nat, q < p → ¬ rdy l lst q := ⟨p, hp, h, hq⟩
  unfold nxtL
  rw [dif_pos hx]
  obtain ⟨_, h2, h3⟩ := hx.choose_spec
  rcases Nat.lt_trichotomy hx.choose p with c | c | c
  · exact absurd h2 (hq _ c)
  · exact c
  · exact absurd h (h3 _ c)
theorem nxtL_no {m : Nat} {l : List Jt} {lst : List Int} (h : ∀ q : Nat, q < m → ¬ rdy l lst q) : nxtL m l lst = m := by
  unfold nxtL
  rw [dif_neg (fun ⟨p, hp, h2, _⟩ => h p hp h2)]

set_option maxRecDepth 100000 in
set_option maxHeartbeats 8000000 in
theorem next_any (X S L mb g m n : Nat) (l : List Jt) (lst : List Int) (w : World)
    (hX : w.heap[X]? = some (.cells #[.int .i64 (m : Int)] 3 (0, 0))) (hS : w.heap[S]? = some (.cells #[.map (some mb)] 43 (0, 0)))
    (hL : w.heap[L]? = some (.cells #[.slice (some ⟨g, 0, none⟩) m m] 35 (0, 0))) (hown : w.ownsMap Try.prog 3 selfElem mb n (mapJ l n))
    (hc : ∀ p : Nat, p < m → w.cell? ⟨g, p, none⟩ = some (.bool (decide ((p : Int) ∈ lst)))) (hg : g < w.heap.size)
    (hl : l.length = n) (hm : m ≤ 256) (hok : okJs (m : Int) l n) :
    Calls Try.prog 27 #[.pointer (some ⟨X, 0, none⟩), .pointer (some ⟨S, 0, none⟩), .pointer (some ⟨L, 0, none⟩)] w fun e w' => e = .returned (.int .i64 (nxtL m l lst : Int)) ∧ Below w.heap.size w w' := by
  have hXl : X < w.heap.size := (Array.getElem?_eq_some_iff.1 hX).1
  have hSl : S < w.heap.size := (Array.getElem?_eq_some_iff.1 hS).1
  have hLl : L < w.heap.size := (Array.getElem?_eq_some_iff.1 hL).1
  have hmb := hown.lt
  have cX := blk_cell hX 0
  simp at cX
  have HK := Lib.hid (show _ ∧ _ ∧ _ ∧ _ ∧ _ ∧ _ from ⟨hX, hS, hL, hown, hc, hok⟩)
  clear hX hS hL hown hc hok
  go_enter Try.func27, Try.ntmps27
  go_wp2
  go_loopw [8] (fun i wr => ∃ p : Nat, p ≤ m ∧ i = .int .i64 p ∧ (∀ q : Nat, q < p → ¬ rdy l lst q) ∧ Below w.heap.size w wr) (fun i _ => m - (intOf i).toNat)
  case atStart => exact ⟨0, Nat.zero_le _, rfl, fun q hq => by omega, Below.refl _ _⟩
  case round =>
    obtain ⟨p, hp, rfl, hno, hb⟩ := hrel
    clear cX
    have cX := blk_cell (blk_below HK.out.1 hb hXl) 0
    simp at cX
    by_cases hlt : p < m
    case neg =>
      obtain rfl : p = m := by omega
      have EB := Lib.hid (nxtL_no hno)
      clear hno
      go_wp2
      go_ret
      exact ⟨by rw [EB.out]; rfl, hb⟩
    have hz := hb.size
    have cS := blk_cell (blk_below HK.out.2.1 hb hSl) 0
    simp at cS
    have cL := blk_cell (blk_below HK.out.2.2.1 hb hLl) 0
    simp at cL
    have cg := (hb.cell (p := ⟨g, p, none⟩) hg).trans (HK.out.2.2.2.2.1 p hlt)
    have hLr : L < wr.heap.size := by omega
    have hgr : g < wr.heap.size := by omega
    have hlk := lkLook (ownsMap_below HK.out.2.2.2.1 hb hmb) p (WalkArith.wf_i64 (by omega))
    have i2 : (p : Int) < (m : Int) := by omega
    have uk : IntKind.i64.wrap ((p : Int) + 1) = (p : Int) + 1 := wrap_id (by omega)
    have hb2 := hb.alloc hz (.cells #[.int .i64 (lookJ l p n).1, .int .i64 (lookJ l p n).2.1, .int .i64 (lookJ l p n).2.2.1, .int .i64 (lookJ l p n).2.2.2.1, .int .i64 (lookJ l p n).2.2.2.2] 34)
    have hyes : rdy l lst p → nxtL m l lst = p := fun h => nxtL_is hlt h hno
    have hnot : ¬ rdy l lst p → ∀ q : Nat, q < p + 1 → ¬ rdy l lst q := fun h q hq => by
      by_cases e : q = p
      · subst e; exact h
      · exact hno q (by omega)
    have HB := Lib.hid hb2
    have HC := Lib.hid (fun q : Nat => hb.cell (p := ⟨g, q, none⟩) hg)
    clear hno hb hb2
    by_cases hin : (p : Int) ∈ lst
    case pos =>
      have HN := Lib.hid (hnot (fun h => h.1 hin))
      rw [decide_eq_true hin] at cg
      clear hin hyes hnot
      generalize decide (0 < srcN l (p : Int) n) = tb at *
      cases tb <;> skip
      all_goals go_wp2
      all_goals go_roundw
      all_goals first
        | exact ⟨p + 1, by omega, by go_num, HN.out, HB.out⟩
        | (simp [intOf]; omega)
    rw [decide_eq_false hin] at cg
    by_cases hs : srcN l p n = 0
    case pos =>
      have EB := Lib.hid (hyes ⟨hin, fun f hf => by rw [bk_zero hl hs] at hf; cases hf⟩)
      rw [show decide (0 < srcN l p n) = false from decide_eq_false (by omega)] at hlk
      clear hin hyes hnot hs
      go_wp2
      go_ret
      exact ⟨by rw [EB.out]; rfl, HB.out⟩
    rw [show decide (0 < srcN l p n) = true from decide_eq_true (by omega)] at hlk
    have hbk := bk_pos hl hs
    have hf : 0 ≤ (lookJ l p n).1 ∧ (lookJ l p n).1 < (m : Int) := by
      unfold lookJ
      rw [if_neg hs]
      have := srcN_le l p n
      exact (HK.out.2.2.2.2.2 (srcN l p n - 1) (by omega)).2.1
    generalize lookJ l p n = z at *
    obtain ⟨z0, z1, z2, z3, z4⟩ := z
    dsimp only at hbk hf hlk
    obtain ⟨q, rfl⟩ : ∃ q : Nat, z0 = q := ⟨z0.toNat, by omega⟩
    have HQ := Lib.hid (HC.out q)
    have cq := HK.out.2.2.2.2.1 q (by omega)
    have i3 : (q : Int) < (m : Int) := hf.2
    clear hf hs HC
    have cq2 : wr.cell? ⟨g, q, none⟩ = some (.bool (decide ((q : Int) ∈ lst))) := HQ.out.trans cq
    clear HQ cq
    by_cases hqin : (q : Int) ∈ lst
    · have EB := Lib.hid (hyes ⟨hin, fun f hf => by rw [hbk] at hf; cases hf; exact hqin⟩)
      rw [decide_eq_true hqin] at cq2
      clear hin hyes hnot hbk hqin
      go_wp2
      go_ret
      exact ⟨by rw [EB.out]; rfl, HB.out⟩
    · have HN := Lib.hid (hnot (fun h => hqin (h.2 _ hbk)))
      rw [decide_eq_false hqin] at cq2
      clear hin hyes hnot hbk hqin
      go_wp2
      go_roundw
      case rel => exact ⟨p + 1, by omega, by go_num, HN.out, HB.out⟩
      case measure => simp [intOf]; omega
end Go.Proofs.Ythncfhfnboocmaa
