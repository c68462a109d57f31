/- links.Order (layer 13). -/
import Derived.Test.YthncfhfnboocmaaLnkOrdT
import Derived.Deep.Cut
import Derived.Deep.CutRange
import Derived.Deep.RegionWith
namespace Go.Proofs.Ythncfhfnboocmaa
open Go.ChangeShapes Go.WideShapes Go.ChangeAt Go.RowKit

noncomputable def orderL (m : Int) (l : List Jt) : List Int := if chkL m l = 0 then ordL m.toNat l m.toNat else []

theorem info_bool : (Try.prog.info? 4).map (fun i => (i.zero, i.size, i.bytes)) = some (some (.bool false), 1, 1) := by kernel_rfl
/-- What make gives: m times false. -/
theorem mk_bools (m : Nat) (hm : m ≤ 256) : ∃ F : Array Value, (∀ p : Nat, p < m → F[p]? = some (.bool false)) ∧ ∀ w : World, (Instr.makeSlice 35 (.int .i64 (m : Int)) (.int .i64 (m : Int))).run Try.prog w = .ok (.slice (some ⟨w.heap.size, 0, none⟩) m m) (w.alloc (.cells F 4)) := by
  obtain ⟨i0, hi, hz0, hz1, hz2⟩ := info_parts info_bool
  refine ⟨madeCells (Value.bool false).cells (m * i0.size), fun p hp => ?_, fun w => ?_⟩
  · rw [hz1, Nat.mul_one]
    simp [madeCells, Value.cells, hp, Nat.mod_one]
  · have := run_makeSlice (P := Try.prog) w 35 4 i0 (.bool false) Try.underlying35 hi hz0 .i64 .i64 (m : Int) (m : Int) (by omega) (by omega) (by rw [hz1]; simp; omega) (by rw [hz2]; omega) (by omega)
    simpa using this

set_option maxRecDepth 100000 in
set_option maxHeartbeats 64000000 in
theorem lkOrder (m : Int) (a : Option Addr) (b off n cap : Nat) (l : List Jt) (w : World) (h : Js w a n b off l) (hn : n ≤ 9223372036854775807) (hwl : ∀ i, i < n → wfJ (nthJ l i)) :
    Calls Try.prog 13 #[.int .i64 m, .slice a n cap] w fun e w' => ∃ v, e = .returned (.tuple #[v, .int .i64 (chkL m l)]) ∧ Ints w' w.heap.size v (orderL m l) ∧ Below w.heap.size w w' := by
  have hl := h.1
  have hB0 := (Below.refl w.heap.size w).alloc (Nat.le_refl _) (.cells #[.int .i64 m] 3)
  have HK := Lib.hid (show _ ∧ _ ∧ _ from ⟨h, hwl, hB0⟩)
  clear h hwl hB0
  by_cases hc : chkL m l = 0
  case neg =>
    have EB := Lib.hid (show orderL m l = [] from if_neg hc)
    go_enter Try.func13, Try.ntmps13
    go_wp2_with fail
    refine (lkCheck m a b off n cap l _ (HK.out.1.grown HK.out.2.2) hn HK.out.2.1).mono ?_; rintro e w1 ⟨rfl, hB1⟩
    have hB2 := below_after HK.out.2.2 hB1 (by simp)
    clear hB1
    go_wp2
    go_ret2
    exact ⟨_, rfl, by rw [EB.out]; exact Ints.nil _ _, hB2⟩
  obtain ⟨hA, hn2, ⟨hok, hap⟩, hen⟩ := chkL_inv hc
  rw [hl] at hn2 hok hap
  obtain ⟨m, rfl⟩ : ∃ k : Nat, m = k := ⟨m.toNat, by omega⟩
  have EB := Lib.hid (show orderL (m : Int) l = ordL m l m by unfold orderL; rw [if_pos hc]; simp)
  obtain ⟨F, hF, hmk⟩ := mk_bools m (by omega)
  have hm256 : m ≤ 256 := by omega
  have HF := Lib.hid (show _ ∧ _ ∧ _ ∧ _ ∧ _ from ⟨hF, hA, hok, hap, hen⟩)
  clear hF hA hok hap hen
  go_enter Try.func13, Try.ntmps13
  go_wp2_with fail
  refine (lkCheck (m : Int) a b off n cap l _ (HK.out.1.grown HK.out.2.2) hn HK.out.2.1).mono ?_; rintro e w1 ⟨rfl, hB1⟩
  rw [hc]
  have z1 := hB1.size
  simp at z1
  have hX := blk_below (blk_new w (.cells #[.int .i64 (m : Int)] 3)) hB1 (by simp)
  have cX := blk_cell hX 0
  simp at cX
  have hB2 := below_after HK.out.2.2 hB1 (by simp)
  have HX := Lib.hid (show _ ∧ _ from ⟨hX, hB2⟩)
  clear hX hB2 hB1
  go_upto_region 4 with fail
  go_cut [7, 8] from 17 to 20 (fun s7 s8 wx => OrdS m n l F w1 wx s7 s8)
  case first =>
    have hl9 : w.heap.size < w1.heap.size := by omega
    go_region_with (go_at_call 22; refine (lkSources a b off n cap l _ ((HK.out.1.grown HX.out.2).grown (by go_grown)) (by omega) HK.out.2.1).mono ?_; rintro e w2 ⟨⟨mb, hmb, rfl, hown⟩, hB2⟩; have hz2 := hB2.size; simp at hz2; have hl0 : w.heap.size < w2.heap.size := (by omega); (try (have hl1 : w1.heap.size < w2.heap.size := by omega)); (try (have hl2 : w1.heap.size + 1 < w2.heap.size := by omega)); (try (have hl3 : w1.heap.size + 1 + 1 < w2.heap.size := by omega)); have dn : w2.cell? ⟨w.heap.size, 0, none⟩ = some (.int .i64 (m : Int)) := (hB2.cell (p := ⟨w.heap.size, 0, none⟩) (by simp; omega)).trans (by simp only [cell_drew]; (repeat (first | exact cX | refine cell_alloc_keep ?_ _))); (try (have dc0 : w2.cell? ⟨w1.heap.size, 0, none⟩ = some (.map none) := by (refine (hB2.cell (p := ⟨w1.heap.size, 0, none⟩) ?_).trans ?_; (simp <;> omega); go_cell))); (try (have dc1 : w2.cell? ⟨w1.heap.size, 0, none⟩ = some (.slice none 0 0) := by (refine (hB2.cell (p := ⟨w1.heap.size, 0, none⟩) ?_).trans ?_; (simp <;> omega); go_cell))); (try (have df2 : w2.frozen? ⟨w1.heap.size, 0, none⟩ = false := by (refine (hB2.frozen (p := ⟨w1.heap.size, 0, none⟩) ?_).trans ?_; (simp <;> omega); go_cell))); (try (have dc2 : w2.cell? ⟨w1.heap.size + 1, 0, none⟩ = some (.map none) := by (refine (hB2.cell (p := ⟨w1.heap.size + 1, 0, none⟩) ?_).trans ?_; (simp <;> omega); go_cell))); (try (have dc3 : w2.cell? ⟨w1.heap.size + 1, 0, none⟩ = some (.slice none 0 0) := by (refine (hB2.cell (p := ⟨w1.heap.size + 1, 0, none⟩) ?_).trans ?_; (simp <;> omega); go_cell))); (try (have df4 : w2.frozen? ⟨w1.heap.size + 1, 0, none⟩ = false := by (refine (hB2.frozen (p := ⟨w1.heap.size + 1, 0, none⟩) ?_).trans ?_; (simp <;> omega); go_cell))); (try (have dc4 : w2.cell? ⟨w1.heap.size + 1 + 1, 0, none⟩ = some (.map none) := by (refine (hB2.cell (p := ⟨w1.heap.size + 1 + 1, 0, none⟩) ?_).trans ?_; (simp <;> omega); go_cell))); (try (have dc5 : w2.cell? ⟨w1.heap.size + 1 + 1, 0, none⟩ = some (.slice none 0 0) := by (refine (hB2.cell (p := ⟨w1.heap.size + 1 + 1, 0, none⟩) ?_).trans ?_; (simp <;> omega); go_cell))); (try (have df6 : w2.frozen? ⟨w1.heap.size + 1 + 1, 0, none⟩ = false := by (refine (hB2.frozen (p := ⟨w1.heap.size + 1 + 1, 0, none⟩) ?_).trans ?_; (simp <;> omega); go_cell))))
    all_goals (try (go_wp2_with fail))
    all_goals (try go_meet)
    all_goals (
      have hlt := World.ownsMap.lt hown
      simp at hmb
      apply OrdS.mk
      all_goals (repeat' (first
        | (with_reducible exact hown)
        | (with_reducible exact blkN (by simp))
        | (with_reducible apply blkU)
        | (with_reducible refine blkS ?_ ?_)
        | (with_reducible refine blk_alloc ?_ _)
        | (with_reducible refine blk_drew ?_)
        | (with_reducible refine blk_below ?_ hB2 ?_)
        | (with_reducible refine World.ownsMap.alloc ?_ _)
        | (with_reducible refine World.ownsMap.setCell ?_ ?_ _)
        | exact Below.refl _ _
        | (with_reducible refine Below.alloc ?_ ?_ _)
        | (with_reducible refine Below.setCell ?_ ?_ _)
        | (with_reducible refine below_after ?_ hB2 ?_)
        | (with_reducible refine Below.drew ?_)
        | omega
        | (simp <;> omega))))
  case rest =>
    obtain ⟨S, L, mb, g, rfl, rfl, hS, hL, hg, hown, lS, lL, lg, hB⟩ := hcut
    have hSl := (Array.getElem?_eq_some_iff.1 hS).1
    have hLl := (Array.getElem?_eq_some_iff.1 hL).1
    have hgl := (Array.getElem?_eq_some_iff.1 hg).1
    have hml := hown.lt
    have nSg : S ≠ g := fun e => by subst e; rw [hS] at hg; simp at hg
    have nLg : L ≠ g := fun e => by subst e; rw [hL] at hg; simp at hg
    have nmg : mb ≠ g := fun e => by subst e; obtain ⟨es, clock, h1, _⟩ := hown; rw [h1] at hg; simp at hg
    have cX2 := (hB.cell (p := ⟨w.heap.size, 0, none⟩) (by simp; omega)).trans cX
    have HS := Lib.hid (show _ ∧ _ ∧ _ ∧ _ ∧ _ from ⟨hS, hL, hg, hown, hB⟩)
    clear hS hL hg hown hB cX
    obtain ⟨BB, hBB⟩ : ∃ BB, BB = wc.heap.size := ⟨_, rfl⟩
    rw [← hBB] at hSl hLl hgl hml
    have HBB := Lib.hid hBB
    clear hBB
    go_wp2
    go_loopw [4, 23] (fun v i wr => ∃ (k : Nat) (G : Array Value), k ≤ m ∧ i = .int .i64 k ∧ Ints wr BB v (ordL m l k) ∧ wr.heap[S]? = some (.cells #[.map (some mb)] 43 (0, 0)) ∧ wr.heap[L]? = some (.cells #[.slice (some ⟨g, 0, none⟩) m m] 35 (0, 0)) ∧ wr.heap[g]? = some (.cells G 4 (0, 0)) ∧
        (∀ q : Nat, q < m → G[q]? = some (.bool (decide ((q : Int) ∈ ordL m l k)))) ∧ wr.ownsMap Try.prog 3 selfElem mb n (mapJ l n) ∧ BB ≤ wr.heap.size ∧ Below w1.heap.size w1 wr) (fun _ i _ => m - (intOf i).toNat)
    case atStart => exact ⟨0, F, Nat.zero_le _, rfl, Ints.nil _ _, HS.out.1, HS.out.2.1, HS.out.2.2.1, fun q hq => by rw [HF.out.1 q hq]; rfl, HS.out.2.2.2.1, by rw [HBB.out]; exact Nat.le_refl _, HS.out.2.2.2.2⟩
    case round =>
      obtain ⟨k, G, hk, rfl, hO, rS, rL, rg, hG, rm, hz, hB⟩ := hrel
      clear cX2
      by_cases hlt : k < m
      case neg =>
        obtain rfl : k = m := by omega
        have hBw := below_after HX.out.2 hB (by omega)
        have hO2 := hO.mono (B' := w.heap.size) (by omega)
        rw [← EB.out] at hO2
        obtain ⟨av, bv, cv, rfl, _⟩ := hO.row
        clear hO rS rL rg hG rm hB
        go_wp2
        go_ret2
        exact ⟨_, by rw [hc]; rfl, hO2, hBw⟩
      have i2 : (k : Int) < (m : Int) := by omega
      have uk : IntKind.i64.wrap ((k : Int) + 1) = (k : Int) + 1 := wrap_id (by omega)
      have hXr := blk_below HX.out.1 hB (by omega)
      obtain ⟨hp1, _⟩ := nxt_lt hl HF.out.2.2.1 HF.out.2.2.2.1 HF.out.2.2.2.2 (lst := ordL m l k) (by rw [ordL_len]; exact hlt)
      have eo : ordL m l (k + 1) = ordL m l k ++ [(nxtL m l (ordL m l k) : Int)] := rfl
      have hcg : ∀ p : Nat, p < m → wr.cell? ⟨g, p, none⟩ = some (.bool (decide ((p : Int) ∈ ordL m l k))) := fun p hp => by rw [blk_cell rg p]; exact hG p hp
      have HR := Lib.hid (show _ ∧ _ ∧ _ ∧ _ ∧ _ ∧ _ ∧ _ ∧ _ ∧ _ ∧ _ from ⟨hO, rS, rL, rg, hG, rm, hB, hXr, hcg, eo⟩)
      clear hO rS rL rg hG rm hB hXr hcg eo
      go_wp2_with fail
      refine (next_any w.heap.size S L mb g m n l (ordL m l k) wr HR.out.2.2.2.2.2.2.2.1 HR.out.2.1 HR.out.2.2.1 HR.out.2.2.2.2.2.1 HR.out.2.2.2.2.2.2.2.2.1 (by omega) hl (by omega) HF.out.2.2.1).mono ?_; rintro e w2 ⟨rfl, hB2⟩
      have z2 := hB2.size
      have g2 := blk_below HR.out.2.2.2.1 hB2 (by omega)
      have cL := blk_cell (blk_below HR.out.2.2.1 hB2 (by omega)) 0
      simp at cL
      have ep : ∃ p, p = nxtL m l (ordL m l k) := ⟨_, rfl⟩
      obtain ⟨p, ep⟩ := ep
      rw [← ep] at hp1 ⊢
      have cg := (blk_cell g2 p).trans (HR.out.2.2.2.2.1 p hp1)
      have fg := blk_free g2 p
      have i3 : (p : Int) < (m : Int) := by omega
      have hO2 := ((HR.out.1.below hB2 (Nat.le_refl _)).setLow (p := p) (u := .bool true) hgl)
      obtain ⟨av, bv, cv, rfl, _⟩ := hO2.row
      have HO := Lib.hid hO2
      clear hO2
      have HP := Lib.hid ep
      clear ep

      go_wp2_with (at_builtin; refine wpList_append_int rfl _ _ rfl BB _ _ rfl (HO.out.alloc _) _ _ rfl _ _ (blkN (by rw [World.size_setCell])) (by rw [ordL_len m l k]; omega) (by rw [World.size_alloc, World.size_setCell]; omega) ?_; intro v' w3 hO3 hB3 hgx; clear hgx)
      have z3 := hB3.size
      simp at z3
      have R1 := ord_kept HR.out.2.1 hB2 hB3 hSl nSg
      have R2 := ord_kept HR.out.2.2.1 hB2 hB3 hLl nLg
      have R3 := ord_mark HR.out.2.2.2.1 hB2 hB3 hgl
      have R4 := ord_map HR.out.2.2.2.2.2.1 hB2 hB3 hml nmg
      have R5 := (((below_after HR.out.2.2.2.2.2.2.1 hB2 (by omega)).setCell (p := ⟨g, p, none⟩) lg (.bool true)).alloc (by simp; omega) (.cells #[.int .i64 (p : Int)] 3)).trans (hB3.mono (by omega))
      have R6 := ord_marks HR.out.2.2.2.2.1 hp1
      have e2 := HR.out.2.2.2.2.2.2.2.2.2
      rw [← HP.out] at e2
      rw [← e2] at R6 hO3
      have HE := Lib.hid (show _ ∧ _ ∧ _ ∧ _ ∧ _ ∧ _ ∧ _ from ⟨hO3, R1, R2, R3, R6, R4, R5⟩)
      clear hO3 R1 R2 R3 R4 R5 R6 e2 hB2 hB3 cL cg fg g2
      go_roundw
      case rel => exact ⟨k + 1, _, by omega, by go_num, HE.out.1, HE.out.2.1, HE.out.2.2.1, HE.out.2.2.2.1, HE.out.2.2.2.2.1, HE.out.2.2.2.2.2.1, by omega, HE.out.2.2.2.2.2.2⟩
      case measure => simp [intOf]; omega
end Go.Proofs.Ythncfhfnboocmaa
