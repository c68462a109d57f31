/- Cut (layer 6). -/
import Derived.Test.YthgbkdaimnejeaaNetCutM
import Derived.Laws.EntriesVeiled
namespace Go.Proofs.Ythgbkdaimnejeaa
open Go.ChangeShapes Go.WideShapes Go.ChangeAt Go.RowKit Go.Shelf

attribute [local go_sem] Oper.semAt_some

def CutP (Q : List Kt) (A : List Qt) (a b : Int) (on : Bool) (qv : Value) (w : World) (e : Ending) (w' : World) : Prop :=
  (¬ NetOk Q A ∧ e = .returned (.tuple #[.agg #[.slice none 0 0, .slice none 0 0], .int .i64 60]) ∧ Below w.heap.size w w') ∨
  (NetOk Q A ∧ ¬ prt a b ∧ e = .returned (.tuple #[.agg #[.slice none 0 0, .slice none 0 0], .int .i64 1]) ∧ Below w.heap.size w w') ∨
  (NetOk Q A ∧ prt a b ∧ ∃ v, e = .returned (.tuple #[.agg #[qv, v], .int .i64 0]) ∧ QsO w' w.heap.size v (cutL A (prQ a b) on) ∧ Below w.heap.size w w')

set_option maxRecDepth 100000 in
set_option maxHeartbeats 8000000 in
theorem cut_in (qa : Option Addr) (qn qc qb qo : Nat) (Q : List Kt) (pa : Option Addr) (pn pc pb po : Nat) (A : List Qt) (a b : Int) (on : Bool) (w : World) (hQ : Ks w qa qn qb qo Q) (hA : Qs w pa pn pb po A) (hqn : qn ≤ 9223372036854775807) (hpn : pn ≤ 9223372036854775807) :
    CallsIn Fence.wide 5 Try.prog 18 #[.agg #[.slice qa qn qc, .slice pa pn pc], .int .i64 a, .int .i64 b, .bool on] w (CutP Q A a b on (.slice qa qn qc) w) := by
  have hro : Fence.wide.round = none := rfl
  have HM := Lib.hid (show _ ∧ _ ∧ _ ∧ _ from ⟨hQ, hA, hQ.1, hA.1⟩)
  clear hQ hA
  obtain ⟨W, hW⟩ : ∃ W, W = ((w.alloc (.cells #[.slice qa qn qc, .slice pa pn pc] 25)).alloc (.cells #[.bool on] 4)).alloc (.cells #[.slice none 0 0, .slice none 0 0] 25) := ⟨_, rfl⟩
  have hB : Below w.heap.size w W := by rw [hW]; go_grown
  have h1 : W.heap[w.heap.size]? = some (.cells #[.slice qa qn qc, .slice pa pn pc] 25 (0, 0)) := by rw [hW]; exact blk_alloc (blk_alloc (blk_new _ _) _) _
  have h2 : W.heap[w.heap.size + 1]? = some (.cells #[.bool on] 4 (0, 0)) := by rw [hW]; have := blk_new (w.alloc (.cells #[.slice qa qn qc, .slice pa pn pc] 25)) (.cells #[.bool on] 4); rw [World.size_alloc] at this; exact blk_alloc this _
  have h3 : W.heap[w.heap.size + 1 + 1]? = some (.cells #[.slice none 0 0, .slice none 0 0] 25 (0, 0)) := by rw [hW]; have := blk_new ((w.alloc (.cells #[.slice qa qn qc, .slice pa pn pc] 25)).alloc (.cells #[.bool on] 4)) (.cells #[.slice none 0 0, .slice none 0 0] 25); rw [World.size_alloc, World.size_alloc] at this; exact this
  have H := Lib.hid (show _ ∧ _ ∧ _ ∧ _ from ⟨h1, h2, h3, hB⟩)
  clear hB h1 h2 h3
  have c0 := blk_cell H.out.1 0; have c1 := blk_cell H.out.1 1
  simp at c0 c1
  refine callsIn_of_wp_marks Try.func18 rfl trivial ?_ hro
  simp only [Try.ntmps18, List.size_toArray, List.length_cons, List.length_nil, Nat.reduceAdd, Nat.reduceSub, Array.replicate_succ, Array.replicate_zero, List.push_toArray, List.append_toArray, List.nil_append, List.cons_append]
  gi_upto_region 1 with fail
  rw [← hW]
  clear hW
  gi_wp2
  refine ⟨trivial, ?_⟩
  refine (callsIn_wide.2 (check_any qa qn qc qb qo Q pa pn pc pb po A W (HM.out.1.grown H.out.2.2.2) (HM.out.2.1.grown H.out.2.2.2) hqn hpn)).mono ?_
  rintro e W1 ⟨rfl, hb⟩
  have H1 := Lib.hid (show _ ∧ _ ∧ _ ∧ _ from ⟨blk_below H.out.1 hb (Array.getElem?_eq_some_iff.1 H.out.1).1, blk_below H.out.2.1 hb (Array.getElem?_eq_some_iff.1 H.out.2.1).1, blk_below H.out.2.2.1 hb (Array.getElem?_eq_some_iff.1 H.out.2.2.1).1, below_after H.out.2.2.2 hb H.out.2.2.2.size⟩)
  clear hb c0 c1
  by_cases hN : NetOk Q A
  case neg =>
    have HN := Lib.hid hN
    rw [chkN_no hN]
    clear hN
    have e0 := blk_cell H1.out.2.2.1 0; have e1 := blk_cell H1.out.2.2.1 1; have f0 := blk_free H1.out.2.2.1 0; have f1 := blk_free H1.out.2.2.1 1
    simp at e0 e1
    gi_wp2
    have hE := boxQ_set (u0 := .slice none 0 0) (u1 := .slice none 0 0) H1.out.2.2.1
    have hBe := boxQ_below (b := w.heap.size + 1 + 1) (u0 := .slice none 0 0) (u1 := .slice none 0 0) (show w.heap.size ≤ w.heap.size + 1 + 1 by omega) H1.out.2.2.2
    have e0' := blk_cell hE 0; have e1' := blk_cell hE 1
    simp at e0' e1'
    exact ⟨.tuple #[.agg #[.slice none 0 0, .slice none 0 0], .int .i64 60], by simp [results, Try.results18, go_sem, e0', e1'], .inl ⟨HN.out, rfl, hBe⟩⟩
  have HN := Lib.hid hN
  rw [chkN_yes hN]
  have hA256 := okAn_len hN.2.2
  rw [HM.out.2.2.2] at hA256
  clear hN
  gi_wp2
  refine ⟨trivial, ?_⟩
  by_cases hp : prt a b
  case neg =>
    refine (callsIn_wide.2 (parties_f a b W1 hp)).mono ?_
    rintro e w' ⟨rfl, hw'⟩; subst w'
    have HP := Lib.hid hp
    clear hp
    have e0 := blk_cell H1.out.2.2.1 0; have e1 := blk_cell H1.out.2.2.1 1; have f0 := blk_free H1.out.2.2.1 0; have f1 := blk_free H1.out.2.2.1 1
    simp at e0 e1
    gi_wp2
    have hE := boxQ_set (u0 := .slice none 0 0) (u1 := .slice none 0 0) H1.out.2.2.1
    have hBe := boxQ_below (b := w.heap.size + 1 + 1) (u0 := .slice none 0 0) (u1 := .slice none 0 0) (show w.heap.size ≤ w.heap.size + 1 + 1 by omega) H1.out.2.2.2
    have e0' := blk_cell hE 0; have e1' := blk_cell hE 1
    simp at e0' e1'
    exact ⟨.tuple #[.agg #[.slice none 0 0, .slice none 0 0], .int .i64 1], by simp [results, Try.results18, go_sem, e0', e1'], .inr (.inl ⟨HN.out, HP.out, rfl, hBe⟩)⟩
  refine (callsIn_wide.2 (parties_t a b W1 hp)).mono ?_
  rintro e w' ⟨rfl, hw'⟩; subst w'
  have HP := Lib.hid hp
  clear hp
  gi_wp2
  refine ⟨trivial, ?_⟩
  refine (callsIn_wide.2 (pair_any a b W1)).mono ?_
  rintro e W2 ⟨rfl, hb⟩
  generalize hpq : prQ a b = p at *
  have HQ := Lib.hid hpq
  clear hpq
  obtain ⟨p0, p1⟩ := p
  dsimp only [vQ]
  have hs1 := (Array.getElem?_eq_some_iff.1 H1.out.2.2.1).1
  have hs2 := hb.size
  have H2 := Lib.hid (show _ ∧ _ ∧ _ ∧ _ from ⟨blk_below H1.out.1 hb (Array.getElem?_eq_some_iff.1 H1.out.1).1, blk_below H1.out.2.1 hb (Array.getElem?_eq_some_iff.1 H1.out.2.1).1, blk_below H1.out.2.2.1 hb (Array.getElem?_eq_some_iff.1 H1.out.2.2.1).1, below_after H1.out.2.2.2 hb H1.out.2.2.2.size⟩)
  clear hb
  obtain ⟨X, hX⟩ : ∃ X, X = W2.heap.size := ⟨_, rfl⟩
  obtain ⟨W3, hW3⟩ : ∃ W3, W3 = (W2.alloc (.cells #[.int .i64 p0, .int .i64 p1] 55)).alloc (.cells #[.slice none 0 0] 23) := ⟨_, rfl⟩
  have hX3 : W3.heap.size = X + 1 + 1 := by rw [hW3, hX]; simp
  have hB3 : Below W2.heap.size W2 W3 := by rw [hW3]; go_grown
  have n1 : W3.heap[X]? = some (.cells #[.int .i64 p0, .int .i64 p1] 55 (0, 0)) := by rw [hW3, hX]; exact blk_alloc (blk_new _ _) _
  have n2 : W3.heap[X + 1]? = some (.cells #[.slice none 0 0] 23 (0, 0)) := by rw [hW3, hX]; have := blk_new (W2.alloc (.cells #[.int .i64 p0, .int .i64 p1] 55)) (.cells #[.slice none 0 0] 23); rwa [World.size_alloc] at this
  have H3 := Lib.hid (show _ ∧ _ ∧ _ ∧ _ ∧ _ ∧ _ from ⟨blk_below H2.out.1 hB3 (by omega), blk_below H2.out.2.1 hB3 (by omega), blk_below H2.out.2.2.1 hB3 (by omega), below_after H2.out.2.2.2 hB3 H2.out.2.2.2.size, n1, n2⟩)
  have hxx : w.heap.size + 1 + 1 < X := by omega
  clear hB3 n1 n2
  gi_upto_region 7 with fail
  simp only [← hX]
  rw [← hW3]
  clear hW3 hX
  have c1 := blk_cell H3.out.1 1; have x0 := blk_cell H3.out.2.2.2.2.1 0; have x1 := blk_cell H3.out.2.2.2.2.1 1
  simp at c1 x0 x1
  have HX3 := Lib.hid hX3
  clear hX3
  gi_wp2
  have hX3 := HX3.out
  refine ⟨trivial, ?_⟩
  refine (others_in Fence.wide _ trivial rfl _ _ _ (p0, p1) _).mono ?_
  rintro e w' ⟨rfl, hw'⟩; subst w'
  dsimp only
  obtain ⟨W4, hW4⟩ : ∃ W4, W4 = (W3.alloc (.cells #[.slice pa pn pc] 23)).alloc (.cells #[.int .i64 p0, .int .i64 p1] 55) := ⟨_, rfl⟩
  have hB4 : Below W3.heap.size W3 W4 := by rw [hW4]; go_grown
  have n3 : W4.heap[X + 1 + 1]? = some (.cells #[.slice pa pn pc] 23 (0, 0)) := by rw [hW4, ← hX3]; exact blk_alloc (blk_new _ _) _
  have n4 : W4.heap[X + 1 + 1 + 1]? = some (.cells #[.int .i64 p0, .int .i64 p1] 55 (0, 0)) := by rw [hW4, ← hX3]; have := blk_new (W3.alloc (.cells #[.slice pa pn pc] 23)) (.cells #[.int .i64 p0, .int .i64 p1] 55); rwa [World.size_alloc] at this
  have z4 : W4.heap.size = X + 4 := by rw [hW4]; simp; omega
  have hR := (show CuR w W4 X (.slice qa qn qc) (.slice pa pn pc) (p0, p1) [] on from ⟨blk_below H3.out.1 hB4 (by omega), blk_below H3.out.2.1 hB4 (by omega), blk_below H3.out.2.2.1 hB4 (by omega), blk_below H3.out.2.2.2.2.1 hB4 (by omega), ⟨_, blk_below H3.out.2.2.2.2.2 hB4 (by omega), QsO.nil _ _⟩, below_after H3.out.2.2.2.1 hB4 (by omega), hxx, by omega⟩)
  have HR := Lib.hid (show _ ∧ _ ∧ _ from ⟨hR, n3, n4⟩)
  clear hR n3 n4 hB4 c1 x0 x1
  rw [hX3, ← hW4]
  clear hW4
  gi_wp2
  have hbA := fun h0 => (HM.out.2.1.2.1 h0).2
  refine wpIn_rangeFunc_ownH rfl (by omega) (gf := 42) (lb := #[.pointer (some ⟨X + 1 + 1, 0, none⟩), .pointer (some ⟨X + 1 + 1 + 1, 0, none⟩)]) rfl trivial (enters_of Try.func42 (by kernel_rfl) rfl)
    (others_stopsO Fence.wide _ trivial rfl (by omega) (X + 1 + 1) (X + 1 + 1 + 1) pb po pn pc pa A (p0, p1) (ownU w X) HM.out.2.2.2 hpn W4 HR.out.2.1 HR.out.2.2 (HM.out.2.1.grown HR.out.1.bel)
      (by rintro (⟨h, _⟩ | ⟨h, _⟩ | ⟨h, _⟩) <;> omega) (fun h0 ob => by have := hbA h0; rintro (⟨h, _⟩ | ⟨h, _⟩ | ⟨h, _⟩) <;> omega))
    kpO_t kpO_b (Below.refl _ _) (fun _ => rfl)
    (fun pre W => CuR w W X (.slice qa qn qc) (.slice pa pn pc) (p0, p1) ((foldU (p0, p1) on pre).1) ((foldU (p0, p1) on pre).2))
    (fun c pre W => False)
    (fun pre A B row hs hg hr => hs.grown hg fun q e => ⟨by have := (hr q e).1; omega, (hr q e).2⟩)
    (fun c => fun _ _ _ _ hs _ _ => hs)
    HR.out.1
    (fun x a' W => ∃ (Bx : Nat) (v : Value), W.heap[X + 1]? = some (.cells #[v] 23 (0, 0)) ∧ some Bx ≠ v.ownBlock ∧ X + 4 ≤ Bx ∧ W.heap[Bx]? = some (.cells #[.int .i64 x.1, .int .i64 x.2] 55 (0, 0)) ∧ a' = { tmps := List.toArray ((.agg #[.slice qa qn qc, .slice pa pn pc] : Value) :: (.int .i64 a : Value) :: (.int .i64 b : Value) :: (.bool on : Value) :: (.pointer (some ⟨w.heap.size, 0, none⟩) : Value) :: (undef : Value) :: (undef : Value) :: (.pointer (some ⟨w.heap.size + 1, 0, none⟩) : Value) :: (.pointer (some ⟨w.heap.size + 1 + 1, 0, none⟩) : Value) :: (.int .i64 0 : Value) :: (.pointer (some ⟨X, 0, none⟩) : Value) :: (.pointer (some ⟨X + 1, 0, none⟩) : Value) :: (.pointer (some ⟨Bx, 0, none⟩) : Value) :: (.agg #[.slice qa qn qc, .slice pa pn pc] : Value) :: (.int .i64 0 : Value) :: (.bool false : Value) :: (undef : Value) :: (.int .i64 a : Value) :: (.int .i64 b : Value) :: (.bool true : Value) :: (.bool false : Value) :: (undef : Value) :: (.int .i64 a : Value) :: (.int .i64 b : Value) :: (.agg #[.int .i64 p0, .int .i64 p1] : Value) :: (.pointer (some ⟨w.heap.size, 1, none⟩) : Value) :: (.slice pa pn pc : Value) :: (.agg #[.int .i64 p0, .int .i64 p1] : Value) :: (.func (.func 42) #[] #[.pointer (some ⟨X + 1 + 1, 0, none⟩), .pointer (some ⟨X + 1 + 1 + 1, 0, none⟩)] : Value) :: (.agg #[.int .i64 x.1, .int .i64 x.2] : Value) :: (undef : Value) :: (undef : Value) :: (undef : Value) :: (undef : Value) :: (undef : Value) :: (undef : Value) :: (undef : Value) :: (undef : Value) :: (undef : Value) :: (undef : Value) :: (undef : Value) :: (undef : Value) :: (undef : Value) :: (undef : Value) :: (undef : Value) :: (undef : Value) :: (undef : Value) :: (undef : Value) :: (undef : Value) :: (undef : Value) :: (undef : Value) :: (undef : Value) :: (undef : Value) :: []), defers := [] }) (fun x a' => Own.from (fun s A B row hs hg hr => by obtain ⟨Bx, v, h1, h2, h3, h4, h5⟩ := hs; exact ⟨Bx, v, blk_kept h1 hg hr, h2, h3, blk_kept h4 hg hr, h5⟩) _) ?assign ?body ?done ?stop
  case assign =>
    rintro lp pre x W K hI hK
    simp only [eQ]
    gi_wp2
    obtain ⟨v, hv, hO⟩ := hI.s4
    have hne : some W.heap.size ≠ v.ownBlock := fun e => by have := (World.ownsRow.lt hO _ e.symm).2; omega
    exact hK _ _ ((KeepsOthers.alloc _ _).from _) (KpO.alloc _ _ _) (hI.below ((Below.refl _ _).alloc (Nat.le_refl _) _)) ⟨W.heap.size, v, blk_alloc hv _, hne, hI.bb, blk_new W _, rfl⟩
  case body =>
    rintro lp pre x a' W _ _ hI ⟨Bx, v, hv, hne, hBx, hX, rfl⟩ hpl
    obtain ⟨v', hv', hO⟩ := hI.s4
    obtain rfl : v' = v := by rw [hv] at hv'; cases hv'; rfl
    clear hv'
    obtain ⟨va, vb, vc, rfl, -, -, -, -, -⟩ := hO.s
    have hfl := foldU_len (p0, p1) on pre
    have hsn := foldU_snoc (p0, p1) on pre x
    have hsW := hI.bb
    generalize hfo : foldU (p0, p1) on pre = st at *
    obtain ⟨xs, on'⟩ := st
    obtain ⟨x0, x1⟩ := x
    dsimp only at *
    generalize hml : xs.length = m at *
    have HF := Lib.hid (show _ ∧ _ from ⟨hsn, hml⟩)
    have hBl := (Array.getElem?_eq_some_iff.1 hX).1
    have hxl : xs.length ≤ 1000 := by omega
    clear hsn hfo hpl hfl hml
    have b0 : W.cell? ⟨w.heap.size + 1, 0, none⟩ = _ := blk_cell hI.s1 0
    have b1 : W.cell? ⟨X, 0, none⟩ = _ := blk_cell hI.s3 0
    have b2 : W.cell? ⟨X, 1, none⟩ = _ := blk_cell hI.s3 1
    have b3 : W.cell? ⟨X + 1, 0, none⟩ = _ := blk_cell hv 0
    have b4 : W.cell? ⟨Bx, 0, none⟩ = _ := blk_cell hX 0
    have b5 : W.cell? ⟨Bx, 1, none⟩ = _ := blk_cell hX 1
    simp at b0 b1 b2 b3 b4 b5
    have HI := Lib.hid (show _ ∧ _ ∧ _ ∧ _ ∧ _ from ⟨hI, hv, hO, hX, hne⟩)
    clear hI hv hO hX hne HR
    have hne1 : ¬ w.heap.size = X := by omega
    have hne2 : ¬ X = w.heap.size := by omega
    cases on'
    case false =>
      gi_wp2
      rename_i K hK
      refine ⟨trivial, hK _ _ ?_⟩
      gi_wp2_with (gi_at_builtin; refine wpListIn_append_Q rfl _ _ rfl (X + 4) (.slice va m vc) xs rfl (HI.out.2.2.1.alloc _) W.heap.size (x0, x1) rfl 55 (0, 0) (blk_new _ _) (by first | omega | (simp; omega) | (simp; omega)) (by simp; omega) ?_; intro v2 w2 hO2 hB2 hG2; obtain ⟨ga2, gm2, gc2, rfl⟩ : ∃ a m c, v2 = .slice a m c := (by obtain ⟨a', _, c', h', _⟩ := hO2.s; exact ⟨a', _, c', h'⟩); have c9 : w2.cell? ⟨X + 1, 0, none⟩ = _ := blk_cell (blk_below (blk_alloc HI.out.2.1 _) hB2 (by omega)) 0; have f9 : w2.frozen? ⟨X + 1, 0, none⟩ = false := blk_free (blk_below (blk_alloc HI.out.2.1 _) hB2 (by omega)) 0; have HP2 := Lib.hid (HI.out.1.push HI.out.2.1 HI.out.2.2.1 hO2 hG2); clear hO2 hB2 hG2)
      exact ⟨HP2.out.1.from _, HP2.out.2.1, by dsimp only; rw [HF.out.1, stepU_off]; exact HP2.out.2.2.1⟩
    by_cases hlt : ltQ (p0, p1) (x0, x1)
    case neg =>
      have N := Lib.hid (stepU_one (xs := xs) hlt)
      gi_wp2
      refine ⟨trivial, ?_⟩
      refine (CallsIn.inRound lp (callsIn_wide.2 (before_f (p0, p1) (x0, x1) W hlt))).mono ?_
      rintro e W5 ⟨rfl, hb⟩
      have H5 := Lib.hid (show _ ∧ _ ∧ _ ∧ _ ∧ _ from ⟨HI.out.1.below hb, blk_below HI.out.2.1 hb (by omega), HI.out.2.2.1.below hb (Nat.le_refl _), keeps_below hb, KpO.below (ownU w X) hb⟩)
      have d3 : W5.cell? ⟨X + 1, 0, none⟩ = _ := (hb.cell (p := ⟨X + 1, 0, none⟩) (show X + 1 < W.heap.size by omega)).trans b3
      have d4 : W5.cell? ⟨Bx, 0, none⟩ = _ := (hb.cell (p := ⟨Bx, 0, none⟩) hBl).trans b4
      have d5 : W5.cell? ⟨Bx, 1, none⟩ = _ := (hb.cell (p := ⟨Bx, 1, none⟩) hBl).trans b5
      have hs5 := hb.size
      clear hb b0 b1 b2 b3 b4 b5 hlt
      gi_wp2_with (gi_at_builtin; refine wpListIn_append_Q rfl _ _ rfl (X + 4) (.slice va m vc) xs rfl (H5.out.2.2.1.alloc _) W5.heap.size (x0, x1) rfl 55 (0, 0) (blk_new _ _) (by first | omega | (simp; omega) | (simp; omega)) (by simp; omega) ?_; intro v2 w2 hO2 hB2 hG2; obtain ⟨ga2, gm2, gc2, rfl⟩ : ∃ a m c, v2 = .slice a m c := (by obtain ⟨a', _, c', h', _⟩ := hO2.s; exact ⟨a', _, c', h'⟩); have c9 : w2.cell? ⟨X + 1, 0, none⟩ = _ := blk_cell (blk_below (blk_alloc H5.out.2.1 _) hB2 (by omega)) 0; have f9 : w2.frozen? ⟨X + 1, 0, none⟩ = false := blk_free (blk_below (blk_alloc H5.out.2.1 _) hB2 (by omega)) 0; have HP2 := Lib.hid (H5.out.1.push H5.out.2.1 H5.out.2.2.1 hO2 hG2); clear hO2 hB2 hG2)
      exact ⟨(H5.out.2.2.2.1.trans HP2.out.1).from _, kpO_t H5.out.2.2.2.2 HP2.out.2.1, by dsimp only; rw [HF.out.1, N.out]; exact HP2.out.2.2.1⟩
    have N := Lib.hid (stepU_both (xs := xs) hlt)
    gi_wp2
    refine ⟨trivial, ?_⟩
    refine (CallsIn.inRound lp (callsIn_wide.2 (before_t (p0, p1) (x0, x1) W hlt))).mono ?_
    rintro e W5 ⟨rfl, hb⟩
    have H5 := Lib.hid (show _ ∧ _ ∧ _ ∧ _ ∧ _ ∧ _ from ⟨HI.out.1.below hb, blk_below HI.out.2.1 hb (by omega), HI.out.2.2.1.below hb (Nat.le_refl _), keeps_below hb, KpO.below (ownU w X) hb, blk_below HI.out.2.2.2.1 hb hBl⟩)
    have d1 : W5.cell? ⟨X, 0, none⟩ = _ := (hb.cell (p := ⟨X, 0, none⟩) (show X < W.heap.size by omega)).trans b1
    have d2 : W5.cell? ⟨X, 1, none⟩ = _ := (hb.cell (p := ⟨X, 1, none⟩) (show X < W.heap.size by omega)).trans b2
    have d3 : W5.cell? ⟨X + 1, 0, none⟩ = _ := (hb.cell (p := ⟨X + 1, 0, none⟩) (show X + 1 < W.heap.size by omega)).trans b3
    have hs5 := hb.size
    clear hb b0 b1 b2 b3 b4 b5 hlt
    gi_upto_region 11 with (gi_at_builtin; refine wpListIn_append_Q rfl _ _ rfl (X + 4) (.slice va m vc) xs rfl (H5.out.2.2.1.alloc _) W5.heap.size (p0, p1) rfl 55 (0, 0) (blk_new _ _) (by first | omega | (simp; omega) | (simp; omega)) (by simp; omega) ?_; intro v2 w2 hO2 hB2 hG2; obtain ⟨ga2, gm2, gc2, rfl⟩ : ∃ a m c, v2 = .slice a m c := (by obtain ⟨a', _, c', h', _⟩ := hO2.s; exact ⟨a', _, c', h'⟩); have c9 : w2.cell? ⟨X + 1, 0, none⟩ = _ := blk_cell (blk_below (blk_alloc H5.out.2.1 _) hB2 (by omega)) 0; have f9 : w2.frozen? ⟨X + 1, 0, none⟩ = false := blk_free (blk_below (blk_alloc H5.out.2.1 _) hB2 (by omega)) 0; have d7 : w2.cell? ⟨w.heap.size + 1, 0, none⟩ = _ := blk_cell (blk_below (blk_alloc H5.out.1.s1 _) hB2 (by omega)) 0; have f7 : w2.frozen? ⟨w.heap.size + 1, 0, none⟩ = false := blk_free (blk_below (blk_alloc H5.out.1.s1 _) hB2 (by omega)) 0; simp at d7; have HP2 := Lib.hid (H5.out.1.push H5.out.2.1 H5.out.2.2.1 hO2 hG2); clear hO2 hB2 hG2)
    have k1 := HP2.out.2.2.1.off
    have q1 := CuR.offQ (b := w.heap.size) HP2.out.2.2.2.2.1 (by have := HI.out.1.xx; omega)
    have hb6 : (w2.setCell ⟨X + 1, 0, none⟩ (.slice ga2 gm2 gc2)).heap[Bx]? = _ := HP2.out.2.2.2.2.2 Bx _ H5.out.2.2.2.2.2 HI.out.2.2.2.2 (by omega)
    have hb7 := (Below.heap_setCell (w2.setCell ⟨X + 1, 0, none⟩ (.slice ga2 gm2 gc2)) ⟨w.heap.size + 1, 0, none⟩ (.bool false) Bx (show Bx ≠ w.heap.size + 1 by have := HI.out.1.xx; omega)).trans hb6
    have hx7 := (Below.heap_setCell (w2.setCell ⟨X + 1, 0, none⟩ (.slice ga2 gm2 gc2)) ⟨w.heap.size + 1, 0, none⟩ (.bool false) (X + 1) (show X + 1 ≠ w.heap.size + 1 by have := HI.out.1.xx; omega)).trans HP2.out.2.2.2.1
    have H6 := Lib.hid (show _ ∧ _ ∧ _ ∧ _ ∧ _ from ⟨k1.2.2, hx7, q1, H5.out.2.2.2.1.trans (HP2.out.1.trans k1.1), kpO_t H5.out.2.2.2.2.1 (kpO_t HP2.out.2.1 k1.2.1)⟩)
    have d3 := blk_cell hx7 0; have d4 := blk_cell hb7 0; have d5 := blk_cell hb7 1
    have hs6 := k1.2.2.bb
    have hlv := q1.len3
    clear k1 q1 hb6 hb7 hx7 d1 d2 d7 f7 c9 f9 HP2
    generalize (w2.setCell ⟨X + 1, 0, none⟩ (.slice ga2 gm2 gc2)).setCell ⟨w.heap.size + 1, 0, none⟩ (.bool false) = W6 at *
    simp at d3 d4 d5
    have hlv2 : gm2 ≤ 1001 := by rw [← hlv]; simp; omega
    have HLV := Lib.hid hlv
    clear hlv
    gi_wp2_with (gi_at_builtin; refine wpListIn_append_Q rfl _ _ rfl (X + 4) (.slice ga2 gm2 gc2) (xs ++ [(p0, p1)]) rfl (H6.out.2.2.1.alloc _) W6.heap.size (x0, x1) rfl 55 (0, 0) (blk_new _ _) (by first | omega | (simp; omega) | (simp; omega)) (by simp; omega) ?_; intro v3 w3 hO3 hB3 hG3; obtain ⟨ga3, gm3, gc3, rfl⟩ : ∃ a m c, v3 = .slice a m c := (by obtain ⟨a', _, c', h', _⟩ := hO3.s; exact ⟨a', _, c', h'⟩); have c9 : w3.cell? ⟨X + 1, 0, none⟩ = _ := blk_cell (blk_below (blk_alloc H6.out.2.1 _) hB3 (by omega)) 0; have f9 : w3.frozen? ⟨X + 1, 0, none⟩ = false := blk_free (blk_below (blk_alloc H6.out.2.1 _) hB3 (by omega)) 0; have HP3 := Lib.hid (H6.out.1.push H6.out.2.1 H6.out.2.2.1 hO3 hG3); clear hO3 hB3 hG3)
    exact ⟨(H6.out.2.2.2.1.trans HP3.out.1).from _, kpO_t H6.out.2.2.2.2 HP3.out.2.1, by dsimp only; rw [HF.out.1, N.out]; exact HP3.out.2.2.1⟩
  case done =>
    rintro D ys W hD hys hI hDf
    subst hys
    have hcu : cutL A (p0, p1) on = if (foldU (p0, p1) on (A.filter (fun x => decide (x ≠ (p0, p1))))).2 then (foldU (p0, p1) on (A.filter (fun x => decide (x ≠ (p0, p1))))).1 ++ [(p0, p1)] else (foldU (p0, p1) on (A.filter (fun x => decide (x ≠ (p0, p1))))).1 := rfl
    have hfl := foldU_len (p0, p1) on (A.filter (fun x => decide (x ≠ (p0, p1))))
    have hfl2 := filter_len A (p0, p1)
    rw [HM.out.2.2.2] at hfl2
    generalize foldU (p0, p1) on (A.filter (fun x => decide (x ≠ (p0, p1)))) = st at *
    obtain ⟨xs, on'⟩ := st
    obtain ⟨v, hv, hO⟩ := hI.s4
    obtain ⟨va, vb, vc, rfl, -, -, -, -, -⟩ := hO.s
    generalize hml : xs.length = m at *
    dsimp only at *
    have hsW := hI.bb
    have hxl : xs.length ≤ 1000 := by omega
    have hDl := (Array.getElem?_eq_some_iff.1 hDf).1
    have hMk : Marks w.heap.size W.heap.size [D] W := (⟨List.nodup_nil, fun D hD => by cases hD⟩ : Marks w.heap.size D [] W).cons (Nat.le_refl _) (by omega) hDl hDf
    have b0 : W.cell? ⟨w.heap.size + 1, 0, none⟩ = _ := blk_cell hI.s1 0
    have b3 : W.cell? ⟨X + 1, 0, none⟩ = _ := blk_cell hv 0
    have b1 : W.cell? ⟨X, 0, none⟩ = _ := blk_cell hI.s3 0
    have b2 : W.cell? ⟨X, 1, none⟩ = _ := blk_cell hI.s3 1
    have b6 : W.cell? ⟨w.heap.size, 0, none⟩ = _ := blk_cell hI.s0 0
    have e0 : W.cell? ⟨w.heap.size + 1 + 1, 0, none⟩ = _ := blk_cell hI.s2 0
    have e1 : W.cell? ⟨w.heap.size + 1 + 1, 1, none⟩ = _ := blk_cell hI.s2 1
    have f0 : W.frozen? ⟨w.heap.size + 1 + 1, 0, none⟩ = false := blk_free hI.s2 0
    have f1 : W.frozen? ⟨w.heap.size + 1 + 1, 1, none⟩ = false := blk_free hI.s2 1
    simp at b0 b1 b2 b3 b6 e0 e1
    have HI := Lib.hid (show _ ∧ _ ∧ _ ∧ _ ∧ _ ∧ _ from ⟨hI, hv, hO, hMk, hcu, hml⟩)
    clear hI hv hO hMk hcu hDf hfl hfl2 HR hml
    rename_i K hK
    refine hK _ _ ?_
    cases on'
    case false =>
      gi_wp2
      have hE := boxQ_set (u0 := .slice qa qn qc) (u1 := .slice va m vc) HI.out.1.s2
      have hBe := boxQ_below (b := w.heap.size + 1 + 1) (u0 := .slice qa qn qc) (u1 := .slice va m vc) (show w.heap.size ≤ w.heap.size + 1 + 1 by omega) HI.out.1.bel
      have hOe := (HI.out.2.2.1.setFar (p := w.heap.size + 1 + 1) (i := 0) (u := .slice qa qn qc) (by have := HI.out.1.xx; omega)).setFar (p := w.heap.size + 1 + 1) (i := 1) (u := .slice va m vc) (by have := HI.out.1.xx; omega)
      have hMe := HI.out.2.2.2.1.keeps ((KeepsOthers.setCell W ⟨w.heap.size + 1 + 1, 0, none⟩ (.slice qa qn qc)).trans (KeepsOthers.setCell _ ⟨w.heap.size + 1 + 1, 1, none⟩ (.slice va m vc)))
      generalize (W.setCell ⟨w.heap.size + 1 + 1, 0, none⟩ (.slice qa qn qc)).setCell ⟨w.heap.size + 1 + 1, 1, none⟩ (.slice va m vc) = WF at *
      refine leaves_marks [D] WF hMe (fun W' hb hk => ?_)
      have e0' := blk_cell (hk _ _ hE rfl) 0; have e1' := blk_cell (hk _ _ hE rfl) 1
      simp at e0' e1'
      have hxx := HI.out.1.xx
      exact ⟨.tuple #[.agg #[.slice qa qn qc, .slice va m vc], .int .i64 0], by simp [results, Try.results18, go_sem, e0', e1'], .inr (.inr ⟨HN.out, HP.out, _, rfl, by rw [HQ.out, HI.out.2.2.2.2.1.trans (if_neg (by simp))]; exact (hOe.cells hk).mono (by omega), hBe.trans hb⟩)⟩
    gi_upto_region 14 with (gi_at_builtin; refine wpListIn_append_Q rfl _ _ rfl (X + 4) (.slice va m vc) xs rfl (HI.out.2.2.1.alloc _) W.heap.size (p0, p1) rfl 55 (0, 0) (blk_new _ _) (by first | omega | (simp; omega) | (simp; omega)) (by simp; omega) ?_; intro v2 w2 hO2 hB2 hG2; obtain ⟨ga2, gm2, gc2, rfl⟩ : ∃ a m c, v2 = .slice a m c := (by obtain ⟨a', _, c', h', _⟩ := hO2.s; exact ⟨a', _, c', h'⟩); have c9 : w2.cell? ⟨X + 1, 0, none⟩ = _ := blk_cell (blk_below (blk_alloc HI.out.2.1 _) hB2 (by omega)) 0; have f9 : w2.frozen? ⟨X + 1, 0, none⟩ = false := blk_free (blk_below (blk_alloc HI.out.2.1 _) hB2 (by omega)) 0; have HP2 := Lib.hid (HI.out.1.push HI.out.2.1 HI.out.2.2.1 hO2 hG2); clear hO2 hB2 hG2)
    have hmk := HI.out.2.2.2.1.keeps HP2.out.1
    have hsi := (Array.getElem?_eq_some_iff.1 HP2.out.2.2.1.s2).1
    have b6' := blk_cell HP2.out.2.2.1.s0 0
    have e0'' := blk_cell HP2.out.2.2.1.s2 0; have e1'' := blk_cell HP2.out.2.2.1.s2 1
    have f0' := blk_free HP2.out.2.2.1.s2 0; have f1' := blk_free HP2.out.2.2.1.s2 1
    have b3' := blk_cell HP2.out.2.2.2.1 0
    have H2' := Lib.hid (show _ ∧ _ ∧ _ ∧ _ from ⟨HP2.out.2.2.1, HP2.out.2.2.2.2.1, hmk, HP2.out.2.2.2.1⟩)
    clear hmk HP2 c9 f9 b0 b1 b2 b3 b6 e0 e1 f0 f1
    generalize w2.setCell ⟨X + 1, 0, none⟩ (.slice ga2 gm2 gc2) = W9 at *
    simp at b6' e0'' e1'' b3'
    gi_wp2
    have hE := boxQ_set (u0 := .slice qa qn qc) (u1 := .slice ga2 gm2 gc2) H2'.out.1.s2
    have hBe := boxQ_below (b := w.heap.size + 1 + 1) (u0 := .slice qa qn qc) (u1 := .slice ga2 gm2 gc2) (show w.heap.size ≤ w.heap.size + 1 + 1 by omega) H2'.out.1.bel
    have hOe := (H2'.out.2.1.setFar (p := w.heap.size + 1 + 1) (i := 0) (u := .slice qa qn qc) (by have := H2'.out.1.xx; omega)).setFar (p := w.heap.size + 1 + 1) (i := 1) (u := .slice ga2 gm2 gc2) (by have := H2'.out.1.xx; omega)
    have hMe := H2'.out.2.2.1.keeps ((KeepsOthers.setCell W9 ⟨w.heap.size + 1 + 1, 0, none⟩ (.slice qa qn qc)).trans (KeepsOthers.setCell _ ⟨w.heap.size + 1 + 1, 1, none⟩ (.slice ga2 gm2 gc2)))
    generalize (W9.setCell ⟨w.heap.size + 1 + 1, 0, none⟩ (.slice qa qn qc)).setCell ⟨w.heap.size + 1 + 1, 1, none⟩ (.slice ga2 gm2 gc2) = WF at *
    refine leaves_marks [D] WF hMe (fun W' hb hk => ?_)
    have e0' := blk_cell (hk _ _ hE rfl) 0; have e1' := blk_cell (hk _ _ hE rfl) 1
    simp at e0' e1'
    have hxx := H2'.out.1.xx
    exact ⟨.tuple #[.agg #[.slice qa qn qc, .slice ga2 gm2 gc2], .int .i64 0], by simp [results, Try.results18, go_sem, e0', e1'], .inr (.inr ⟨HN.out, HP.out, _, rfl, by rw [HQ.out, HI.out.2.2.2.2.1.trans (if_pos trivial)]; exact (hOe.cells hk).mono (by omega), hBe.trans hb⟩)⟩
  case stop =>
    rintro D cc pre W hD _ hF _
    exact hF.elim
theorem cut_any (qa : Option Addr) (qn qc qb qo : Nat) (Q : List Kt) (pa : Option Addr) (pn pc pb po : Nat) (A : List Qt) (a b : Int) (on : Bool) (w : World) (hQ : Ks w qa qn qb qo Q) (hA : Qs w pa pn pb po A) (hqn : qn ≤ 9223372036854775807) (hpn : pn ≤ 9223372036854775807) :
    Calls Try.prog 18 #[.agg #[.slice qa qn qc, .slice pa pn pc], .int .i64 a, .int .i64 b, .bool on] w (CutP Q A a b on (.slice qa qn qc) w) := callsIn_wide.1 (cut_in qa qn qc qb qo Q pa pn pc pb po A a b on w hQ hA hqn hpn)
end Go.Proofs.Ythgbkdaimnejeaa
