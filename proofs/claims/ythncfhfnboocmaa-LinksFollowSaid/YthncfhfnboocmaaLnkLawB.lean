/- The walk of LinksOrder (layer 13). -/
import Derived.Test.YthncfhfnboocmaaLnkSane
import Derived.Test.YthncfhfnboocmaaLnkLawM
import Derived.StillTailTactics
import Derived.BigQuiet
namespace Go.Proofs.Ythncfhfnboocmaa
open Go.ChangeShapes Go.WideShapes Go.ChangeAt Go.RowKit

/-- The place of p among the first k of the order, and one more; 0: it isn't there. -/
noncomputable def posn (m : Nat) (l : List Jt) (p : Nat) : Nat → Nat
  | 0 => 0
  | k + 1 => if atO m l k = p then k + 1 else posn m l p k
theorem posn_le (m : Nat) (l : List Jt) (p : Nat) : ∀ k, posn m l p k ≤ k := by
  intro k
  induction k with
  | zero => exact Nat.le_refl _
  | succ k ih => unfold posn; split <;> omega
theorem posn_new {m : Nat} {l : List Jt} (h : Good m l) {k : Nat} (hk : k < m) : ∀ j, j ≤ k → posn m l (atO m l k) j = 0 := by
  intro j
  induction j with
  | zero => intro _; rfl
  | succ j ih => intro hj; unfold posn; rw [if_neg (h.at_ne (by omega) hk)]; exact ih (by omega)
theorem posn_is {m : Nat} {l : List Jt} (h : Good m l) {k : Nat} : ∀ n, k < n → n ≤ m → posn m l (atO m l k) n = k + 1 := by
  intro n
  induction n with
  | zero => intro h; omega
  | succ n ih =>
    intro h1 h2
    unfold posn
    by_cases e : k = n
    · subst e; rw [if_pos rfl]
    · rw [if_neg (fun x => h.at_ne (j := k) (k := n) (by omega) (by omega) x.symm)]; exact ih (by omega) (by omega)
/-- A source stands before its target. -/
theorem posn_lt {m : Nat} {l : List Jt} (h : Good m l) {i : Nat} (hi : i < l.length) : posn m l (nthJ l i).1.toNat m < posn m l (nthJ l i).2.1.toNat m := by
  have ho := h.ok i hi
  obtain ⟨k, hk, e⟩ := h.all (p := (nthJ l i).2.1.toNat) (by have := ho.2.2.1; omega)
  obtain ⟨j, hj, e2⟩ := h.before hi hk (by rw [e]; have := ho.2.2.1; omega)
  rw [← e, posn_is h m hk (Nat.le_refl _), show (nthJ l i).1.toNat = atO m l j by omega, posn_is h m (by omega) (Nat.le_refl _)]
  omega

theorem Row.low {w w' : World} {a : Option Addr} {b off n : Nat} {l : List Int} (h : Row w a b off n l) {B : Nat} (hb : Below B w w') (hB : 0 < n → b < B) : Row w' a b off n l :=
  ⟨h.len, h.adr, fun hn => Nat.lt_of_lt_of_le (h.old hn) hb.size, fun i hi => (hb.cell (p := ⟨b, off + i, none⟩) (hB (by omega))).trans (h.cel i hi)⟩

set_option maxRecDepth 100000 in
set_option maxHeartbeats 8000000 in
theorem linksOrder_walk (m : Int) (a : Option Addr) (b off n cap : Nat) (l : List Jt) (w : World) (hM : Js w a n b off l) (hn : n ≤ 9223372036854775807) (hwl : ∀ i, i < n → wfJ (nthJ l i)) :
    Calls Try.prog 6 #[.int .i64 m, .slice a n cap] w fun e w' => e = .returned (.bool true) ∧ Below w.heap.size w w' := by
  have hl := hM.1
  have HM := Lib.hid (show _ ∧ _ from ⟨hM, hwl⟩)
  clear hM hwl
  go_enter Try.func6, Try.ntmps6
  go_wp2_with fail
  refine (sane_any w).mono ?_; rintro e w1 ⟨rfl, hB⟩
  go_wp2_with fail
  refine (lkOrder m a b off n cap l _ (HM.out.1.grown hB) hn HM.out.2).mono ?_; rintro e w2 ⟨v2, rfl, hO2, hb⟩
  replace hB := below_after hB hb hB.size
  clear hb
  by_cases hc : chkL m l = 0
  case neg =>
    have eo : orderL m l = [] := if_neg hc
    rw [eo] at hO2
    obtain ⟨a2, b2, c2, rfl, R2, -, -⟩ := hO2.row
    clear hO2 R2 eo
    generalize chkL m l = x at *
    have hx : (x == 0) = false := by simpa using hc
    clear hc
    go_wp2
    go_ret
    exact ⟨rfl, hB⟩
  obtain ⟨M, rfl⟩ : ∃ k : Nat, m = k := ⟨m.toNat, by have := (chkL_inv hc).1; omega⟩
  have hG := good_of hc
  have eo : orderL (M : Int) l = ordL M l M := by unfold orderL; rw [if_pos hc]; simp
  rw [eo] at hO2
  obtain ⟨a2, b2, c2, ev, R2, -, -⟩ := hO2.row
  rw [ordL_len] at ev R2
  subst ev
  rw [hc]
  have hM256 := hG.le
  obtain ⟨F, hF, hmk⟩ := mk_ints M hM256
  have HG := Lib.hid (show _ ∧ _ from ⟨hG, hF⟩)
  have hg := blk_new w2 (.cells F 3)
  obtain ⟨g, hgd⟩ : ∃ g, g = w2.heap.size := ⟨_, rfl⟩
  have bg : Below w2.heap.size w2 (w2.alloc (.cells F 3)) := (Below.refl _ _).alloc (Nat.le_refl _) _
  have HS := Lib.hid (show _ ∧ _ ∧ _ ∧ _ from ⟨R2.below bg (Nat.le_refl _), below_after hB bg hB.size, hg, R2.old⟩)
  have hgs := hB.size
  clear hO2 eo hG hF hc hB R2 hg bg
  go_wp2
  rw [← hgd] at HS hgs ⊢
  have HGD := Lib.hid hgd
  clear hgd hmk
  go_loopw [8] (fun i wr => ∃ (k : Nat) (X : Array Value), k ≤ M ∧ i = .int .i64 k ∧ wr.heap[g]? = some (.cells X 3 (0, 0)) ∧ (∀ p : Nat, p < M → X[p]? = some (.int .i64 (posn M l p k : Nat))) ∧ Below g (w2.alloc (.cells F 3)) wr) (fun i _ => M - (intOf i).toNat)
  case atStart => exact ⟨0, F, Nat.zero_le _, rfl, HS.out.2.2.1, fun p hp => (val_at HG.out.2 (i := p) (by simpa using hp)).trans (by simp [posn, hp]), Below.refl _ _⟩
  case round =>
    obtain ⟨k, X, hk, rfl, hX, hXp, hBg⟩ := hrel
    have hBr : Below w.heap.size w wr := HS.out.2.1.trans (hBg.mono hgs)
    by_cases hlt : k < M
    case neg =>
      obtain rfl : k = M := by omega
      have HX := Lib.hid (show _ ∧ _ ∧ _ from ⟨hX, hXp, hBr⟩)
      clear hX hXp hBr hBg
      generalize wr = W0 at *
      go_wp2
      go_loopw [9] (fun i wr => ∃ (q : Nat), q ≤ n ∧ i = .int .i64 q ∧ Below W0.heap.size W0 wr) (fun i _ => n - (intOf i).toNat)
      case atStart => exact ⟨0, Nat.zero_le _, rfl, Below.refl _ _⟩
      case round =>
        obtain ⟨q, hq, rfl, hb⟩ := hrel
        have hB := below_after HX.out.2.2 hb HX.out.2.2.size
        by_cases hlt : q < n
        case neg =>
          obtain rfl : q = n := by omega
          clear hb
          have HB := Lib.hid hB; clear hB
          go_wp2
          go_ret
          exact ⟨rfl, HB.out⟩
        have i1 : (q : Int) < (n : Int) := by omega
        have uq : IntKind.i64.wrap ((q : Int) + 1) = (q : Int) + 1 := wrap_id (by omega)
        obtain ⟨rfl, hbw⟩ := HM.out.1.2.1 (by omega)
        obtain ⟨c0, c1, -, -, -⟩ := (HM.out.1.grown hB).2.2 q hlt
        have ok := HG.out.1.ok q (by omega)
        have hps := posn_lt HG.out.1 (i := q) (by omega)
        obtain ⟨f, hf⟩ : ∃ f : Nat, (nthJ l q).1 = f := ⟨(nthJ l q).1.toNat, by have := ok.2.1; omega⟩
        obtain ⟨t, ht⟩ : ∃ t : Nat, (nthJ l q).2.1 = t := ⟨(nthJ l q).2.1.toNat, by have := ok.2.2.1; omega⟩
        have hf0 := ok.2.1; have ht0 := ok.2.2.1
        rw [hf] at hps c0 hf0
        rw [ht] at hps c1 ht0
        rw [Int.toNat_natCast, Int.toNat_natCast] at hps
        have f2 : (f : Int) < (k : Int) := hf0.2
        have t2 : (t : Int) < (k : Int) := ht0.2
        have hXb := blk_below HX.out.1 hb (Array.getElem?_eq_some_iff.1 HX.out.1).1
        have cf := (blk_cell hXb f).trans (HX.out.2.1 f (by omega))
        have ct := (blk_cell hXb t).trans (HX.out.2.1 t (by omega))
        have hgr := (Array.getElem?_eq_some_iff.1 hXb).1
        have hbr : b < wr.heap.size := Nat.lt_of_lt_of_le hbw hB.size
        generalize posn k l f k = pf at *
        generalize posn k l t k = pt at *
        have i3 : ¬ ((pt : Int) ≤ (pf : Int)) := by omega
        have d1 : decide ((f : Int) < 0) = false := decide_eq_false (by omega)
        have d2 : decide ((t : Int) < 0) = false := decide_eq_false (by omega)
        have d3 : decide ((k : Int) ≤ (f : Int)) = false := decide_eq_false (by omega)
        have d4 : decide ((k : Int) ≤ (t : Int)) = false := decide_eq_false (by omega)
        have d3' : decide (k ≤ f) = false := decide_eq_false (by omega)
        have d4' : decide (k ≤ t) = false := decide_eq_false (by omega)
        have HB := Lib.hid hb; clear hb hB ok hf0 ht0 hf ht hXb
        go_wp2
        go_quiet (fail)
        go_wp2
        go_roundw
        case rel => exact ⟨q + 1, by omega, by go_num, below_drewN HB.out _⟩
        case measure => simp [intOf]; omega
    have i1 : (k : Int) < (M : Int) := by omega
    have uk : IntKind.i64.wrap ((k : Int) + 1) = (k : Int) + 1 := wrap_id (by omega)
    have hR := HS.out.1.low hBg (fun h => by have := HS.out.2.2.2 h; exact this)
    have ho := hR.cel k hlt
    obtain rfl := hR.adr (by omega)
    rw [ordL_get M l k M hlt, Nat.zero_add] at ho
    have hp := HG.out.1.at_lt hlt
    have hz := posn_new HG.out.1 hlt k (Nat.le_refl _)
    rw [show nxtL M l (ordL M l k) = atO M l k from rfl] at ho
    have HP := Lib.hid (show ∀ p : Nat, p < M → posn M l p (k + 1) = if atO M l k = p then k + 1 else posn M l p k from fun p _ => rfl)
    generalize atO M l k = p at *
    have i2 : (p : Int) < (M : Int) := by omega
    have cg := (blk_cell hX p).trans (hXp p hp)
    rw [hz] at cg
    have fg := blk_free hX p
    have hbo := hR.old (by omega)
    have hgr := (Array.getElem?_eq_some_iff.1 hX).1
    have HX := Lib.hid (show _ ∧ _ ∧ _ ∧ _ from ⟨hX, hXp, hBg, hR⟩)
    clear hX hXp hBr hR hz hBg
    go_wp2
    go_roundw
    case rel => exact ⟨k + 1, _, by omega, by go_num, cells_setJ HX.out.1, fun q hq => by
      rw [HP.out q hq]
      by_cases e : p = q
      · subst e
        rw [Array.getElem?_setIfInBounds_self, if_pos (Array.getElem?_eq_some_iff.1 (HX.out.2.1 p hp)).1, if_pos rfl]; rfl
      · rw [Array.getElem?_setIfInBounds_ne e, HX.out.2.1 q hq, if_neg e], HX.out.2.2.1.setCell (p := ⟨g, p, none⟩) (Nat.le_refl _) _⟩
    case measure => simp [intOf]; omega
end Go.Proofs.Ythncfhfnboocmaa
