/- The reference's Changed (layer 42). -/
import Derived.Test.YtjedpemjifcciaaCalRef2
import Derived.Test.YtjedpemjifcciaaCalBin
import Derived.Test.YtjedpemjifcciaaOwnRow
import Derived.Test.YtjedpemjifcciaaGrowT
import Derived.Test.YtjedpemjifcciaaHeld
import Derived.Deep.CutRange
namespace Go.Proofs.Ytjedpemjifcciaa
open Go.ChangeShapes Go.WideShapes Go.ChangeAt Go.RowKit Go.Sort Go.Shelf

theorem ints_blk {w : World} {B : Nat} {v : Value} {l : List Int} (h : Ints w B v l) : ∀ q, v.ownBlock = some q → ∃ c f, w.heap[q]? = some (.cells c 3 f) := by
  intro q hq
  rcases h.2 with ⟨h0, _⟩ | ⟨g, cp, cur, e1, e2, e3, _⟩
  · rw [h0] at hq; cases hq
  · rw [e1] at hq; cases hq; exact ⟨cur, _, e3⟩
theorem ysO_blk {w : World} {B : Nat} {v : Value} {l : List Yt} (h : YsO w B v l) : ∀ q, v.ownBlock = some q → ∃ c f, w.heap[q]? = some (.cells c 40 f) := by
  intro q hq
  rcases h.2 with ⟨h0, _⟩ | ⟨g, cp, cur, e1, e2, e3, _⟩
  · rw [h0] at hq; cases hq
  · rw [e1] at hq; cases hq; exact ⟨cur, _, e3⟩
theorem YsO.othr {w w' : World} {B : Nat} {v : Value} {l : List Yt} {r : Option Nat} (h : YsO w B v l) (hg : w.grownBy w' r) (hr : ∀ q, r = some q → ∃ c f, w.heap[q]? = some (.cells c 3 f)) : YsO w' B v l := by
  refine ⟨h.1, ?_⟩
  rcases h.2 with h0 | ⟨g, cp, cur, e1, e2, e3, e4⟩
  · exact .inl h0
  · refine .inr ⟨g, cp, cur, e1, e2, (hg.block g (Array.getElem?_eq_some_iff.1 e3).1 fun e => ?_).trans e3, e4⟩
    obtain ⟨c, f, h2⟩ := hr g e.symm
    rw [e3] at h2; cases h2
theorem Ints.othr {w w' : World} {B : Nat} {v : Value} {l : List Int} {r : Option Nat} (h : Ints w B v l) (hg : w.grownBy w' r) (hr : ∀ q, r = some q → ∃ c f, w.heap[q]? = some (.cells c 40 f)) : Ints w' B v l := by
  refine ⟨h.1, ?_⟩
  rcases h.2 with h0 | ⟨g, cp, cur, e1, e2, e3, e4⟩
  · exact .inl h0
  · refine .inr ⟨g, cp, cur, e1, e2, (hg.block g (Array.getElem?_eq_some_iff.1 e3).1 fun e => ?_).trans e3, e4⟩
    obtain ⟨c, f, h2⟩ := hr g e.symm
    rw [e3] at h2; cases h2
theorem Ints.setOthr {w : World} {B q i : Nat} {v u : Value} {l : List Int} (h : Ints w B v l) {c : Array Value} {f : Nat × Nat} (hq : w.heap[q]? = some (.cells c 40 f)) : Ints (w.setCell ⟨q, i, none⟩ u) B v l := by
  refine ⟨h.1, ?_⟩
  rcases h.2 with h0 | ⟨g, cp, cur, e1, e2, e3, e4⟩
  · exact .inl h0
  · exact .inr ⟨g, cp, cur, e1, e2, (Below.heap_setCell _ _ _ _ (show g ≠ q from fun e => by subst e; rw [e3] at hq; cases hq)).trans e3, e4⟩
theorem Ints.at' {w : World} {B g n c : Nat} {l : List Int} (h : Ints w B (.slice (some ⟨g, 0, none⟩) n c) l) (hn : l.length = n) {i : Nat} {x : Int} (hx : l[i]? = some x) : w.cell? ⟨g, i, none⟩ = some (.int .i64 x) := by
  subst hn
  have hi := (List.getElem?_eq_some_iff.1 hx).1
  have := World.ownsRow.cellAt h i (by omega)
  rw [this, List.getElem?_map, hx]; rfl
theorem Ints.shape {w : World} {B n : Nat} {v : Value} {l : List Int} (h : Ints w B v l) (hl : l.length = n) (hn : 0 < n) : ∃ g c, v = .slice (some ⟨g, 0, none⟩) n c ∧ g < w.heap.size ∧ B ≤ g := by
  subst hl
  rcases h.2 with ⟨_, h0⟩ | ⟨g, cap, cur, h1, h2, h3, _⟩
  · omega
  · exact ⟨g, cap, h1, (Array.getElem?_eq_some_iff.1 h3).1, h2⟩
theorem Ints.one (w : World) (x : Int) : Ints (w.alloc (.cells #[.int .i64 x] 3)) w.heap.size (.slice (some ⟨w.heap.size, 0, none⟩) 1 1) [x] :=
  ⟨rfl, .inr ⟨w.heap.size, 1, #[.int .i64 x], rfl, Nat.le_refl _, heap_alloc_new w _, Nat.le_refl _, by simp [maxLen], rfl, rfl⟩⟩

/-- Where stretches begin, as far as known; the last is where the next one begins. -/
def atL (p : List (Int × Int) × Int) : List Int := 0 :: p.1.map (·.2)
structure Chain (p : List (Int × Int) × Int) : Prop where
  nxt : ∀ (j : Nat) (s : Int × Int), p.1[j]? = some s → (atL p)[j]? = some s.1 ∧ (atL p)[j + 1]? = some s.2
  last : (atL p)[p.1.length]? = some p.2
theorem Chain.nil : Chain ([], 0) := ⟨fun j s h => by simp at h, rfl⟩
theorem Chain.snoc {p : List (Int × Int) × Int} (h : Chain p) (t : Int) : Chain (p.1 ++ [(p.2, t)], t) := by
  have e : atL (p.1 ++ [(p.2, t)], t) = atL p ++ [t] := by simp [atL]
  have hl : (atL p).length = p.1.length + 1 := by simp [atL]
  constructor
  · intro j s hs
    rw [e]
    dsimp only at hs
    by_cases hj : j < p.1.length
    · rw [List.getElem?_append_left hj] at hs
      obtain ⟨h1, h2⟩ := h.nxt j s hs
      rw [List.getElem?_append_left (by omega), List.getElem?_append_left (by omega)]
      exact ⟨h1, h2⟩
    · rw [List.getElem?_append_right (by omega)] at hs
      have hj2 : j = p.1.length := by
        have := (List.getElem?_eq_some_iff.1 hs).1
        simp at this; omega
      subst hj2
      simp at hs
      subst hs
      rw [List.getElem?_append_left (by omega), List.getElem?_append_right (by omega), hl, Nat.sub_self]
      exact ⟨h.last, rfl⟩
  · rw [e]
    dsimp only
    rw [List.getElem?_append_right (by simp; omega)]
    simp [hl]
theorem chain_to (l : List Rt) (d : Int) (k : Nat) : Chain (strTo l d k) := by
  induction k with
  | zero => exact Chain.nil
  | succ k ih =>
    by_cases h : (nthR l k).1 ≠ d ∨ (nthR l k).2.1 = (strTo l d k).2
    · rw [strTo_skip h]; exact ih
    · rw [strTo_more (by simpa using fun g => h (.inl g)) (fun g => h (.inr g))]
      exact ih.snoc _
theorem chain_strs (l : List Rt) (d : Int) : Chain (strs l d, 1099511627777) := (chain_to l d l.length).snoc _
theorem atL_strs (l : List Rt) (d : Int) : atL (strs l d, 1099511627777) = atL (strTo l d l.length) ++ [1099511627777] := by simp [atL, strs]
theorem atL_len (p : List (Int × Int) × Int) : (atL p).length = p.1.length + 1 := by simp [atL]
theorem strTo_src (l : List Rt) (d : Int) (k : Nat) : (strTo l d k).2 = 0 ∨ ∃ i, i < k ∧ (nthR l i).1 = d ∧ (nthR l i).2.1 = (strTo l d k).2 := by
  induction k with
  | zero => exact .inl rfl
  | succ k ih =>
    by_cases h : (nthR l k).1 ≠ d ∨ (nthR l k).2.1 = (strTo l d k).2
    · rw [strTo_skip h]
      rcases ih with h0 | ⟨i, h1, h2⟩
      · exact .inl h0
      · exact .inr ⟨i, by omega, h2⟩
    · have h1 : (nthR l k).1 = d := by simpa using fun g => h (.inl g)
      rw [strTo_more h1 (fun g => h (.inr g))]
      exact .inr ⟨k, by omega, h1, rfl⟩
theorem strTo_le {l : List Rt} {d : Int} {k : Nat} (hok : okTo l l.length) (hk : k < l.length) (hd : (nthR l k).1 = d) : (strTo l d k).2 ≤ (nthR l k).2.1 := by
  rcases strTo_src l d k with h0 | ⟨i, h1, h2, h3⟩
  · rw [h0]; exact (hok k hk).1.2.1.1
  · have h4 := recs_lt hok h1 hk
    unfold ltK ky at h4
    dsimp only at h4
    rw [h2, hd, h3] at h4
    omega
theorem strTo_gt {l : List Rt} {d : Int} {k : Nat} (hok : okTo l l.length) (hk : k < l.length) (hd : (nthR l k).1 = d) : ¬ (strTo l d k).2 < (nthR l k).2.1 ↔ (nthR l k).2.1 = (strTo l d k).2 := by
  have := strTo_le hok hk hd
  omega

set_option maxRecDepth 100000 in
set_option maxHeartbeats 8000000 in
theorem rchanged_yes (a : Option Addr) (b off n cap : Nat) (l : List Rt) (bef aft : Int) (w : World) (hch : Recs l) (hM : Rs w a n b off l) (h1 : 0 ≤ bef ∧ bef ≤ 16777216) (h2 : 0 ≤ aft ∧ aft ≤ 16777216) :
    Calls Try.prog 18 #[.slice a n cap, .int .i64 bef, .int .i64 aft] w fun e w' => ∃ v, e = .returned (.tuple #[v, .int .i64 0]) ∧ YsO w' w.heap.size v (chTo l bef aft 16) ∧ Below w.heap.size w w' := by
  have hlen := hM.1
  have hn : n ≤ 256 := by rw [← hlen]; exact hch.1
  have HC0 := Lib.hid (chkR_yes hch)
  have HM := Lib.hid (show _ ∧ _ ∧ _ from ⟨hM, hch, hlen⟩)
  have z1 : decide (bef < 0) = false := decide_eq_false (by omega)
  have z2 : decide (16777216 < bef) = false := decide_eq_false (by omega)
  have z3 : decide (aft < 0) = false := decide_eq_false (by omega)
  have z4 : decide (16777216 < aft) = false := decide_eq_false (by omega)
  clear hM hch hlen h1 h2
  go_enter Try.func18, Try.ntmps18
  go_wp2_with fail
  refine (rcheck_any a n cap b off l w HM.out.1 (by omega)).mono ?_
  rintro e W1 ⟨rfl, hb1⟩
  rw [HC0.out]
  have H1 := Lib.hid hb1
  clear hb1
  go_wp2
  clear z1 z2 z3 z4
  go_loopw [9, 10] (fun o d wr => ∃ (k : Nat) (oa : Option Addr) (om oc : Nat), k ≤ 16 ∧ d = .int .i64 k ∧ o = .slice oa om oc ∧ YsO wr w.heap.size (.slice oa om oc) (chTo l bef aft k) ∧ Below w.heap.size w wr) (fun _ d _ => 16 - (intOf d).toNat)
  case atStart => exact ⟨0, _, _, _, by omega, rfl, rfl, (YsO.empty W1).mono H1.out.size, H1.out.alloc H1.out.size _⟩
  case round =>
    obtain ⟨k, oa, om, oc, hk, rfl, rfl, hO, hb⟩ := hrel
    clear H1
    by_cases hlt : k < 16
    case neg =>
      obtain rfl : k = 16 := by omega
      go_wp2
      exact bodyPost_ret (v := .tuple #[.slice oa om oc, .int .i64 0]) (by simp [results, Try.results18, go_sem]) rfl ⟨_, rfl, hO, hb⟩
    have hk16 : (k : Int) < 16 := by omega
    have HK := Lib.hid (show _ ∧ _ from ⟨hO, hb⟩)
    clear hO hb
    go_wp2
    have HI := Lib.hid (show Ints (wr.alloc (.cells #[.int .i64 0] 3)) w.heap.size (.slice (some ⟨wr.heap.size, 0, none⟩) 1 1) (atL (strTo l k 0)) ∧ YsO (wr.alloc (.cells #[.int .i64 0] 3)) w.heap.size (.slice oa om oc) (chTo l bef aft k) ∧ Below w.heap.size w (wr.alloc (.cells #[.int .i64 0] 3)) from ⟨(Ints.one wr 0).mono HK.out.2.size, HK.out.1.alloc _, HK.out.2.alloc HK.out.2.size _⟩)
    generalize wr.alloc (.cells #[.int .i64 0] 3) = W2 at *
    generalize wr.heap.size = G0 at *
    clear HK
    go_loopw [11, 12] (fun o i wr => ∃ (j g c : Nat), j ≤ n ∧ i = .int .i64 j ∧ o = .slice (some ⟨g, 0, none⟩) ((strTo l k j).1.length + 1) c ∧ Ints wr w.heap.size (.slice (some ⟨g, 0, none⟩) ((strTo l k j).1.length + 1) c) (atL (strTo l k j)) ∧ YsO wr w.heap.size (.slice oa om oc) (chTo l bef aft k) ∧ Below w.heap.size w wr) (fun _ i _ => n - (intOf i).toNat)
    case atStart => exact ⟨0, G0, 1, by omega, rfl, rfl, HI.out⟩
    case round =>
      clear HI
      obtain ⟨j, g, c, hj, rfl, rfl, hI, hO, hb⟩ := hrel
      have hls := strTo_len l k j
      have hsk := fun h => strTo_skip (l := l) (d := k) (k := j) h
      have hmo := fun h h2 => strTo_more (l := l) (d := k) (k := j) h h2
      have hch := chain_to l k j
      have hle := fun h h2 => strTo_le (l := l) (d := k) (k := j) HM.out.2.1.2 h h2
      by_cases hjn : j < n
      case neg =>
        obtain rfl : j = n := by omega
        have hcs := chain_strs l k
        have hst : atL (strs l k, 1099511627777) = atL (strTo l k j) ++ [1099511627777] := by rw [atL_strs, HM.out.2.2]
        have hsl : (strs l k).length = (strTo l k j).1.length + 1 := by unfold strs; rw [HM.out.2.2]; simp
        generalize hS : strs l k = S at *
        generalize strTo l k j = st at *
        obtain ⟨sp, sf⟩ := st
        dsimp only at *
        have HZ := Lib.hid (show _ ∧ _ ∧ _ ∧ _ ∧ _ ∧ _ ∧ _ from ⟨hI, hO, hb, hcs, hst, hsl, hS⟩)
        have hal := atL_len (sp, sf)
        dsimp only at hal
        have HAL := Lib.hid hal
        clear hI hO hb hcs hst hsl hS hch hsk hmo hle hal
        go_wp2_with (at_builtin; refine wpList_append_int rfl (.tmp 75) (.tmp 76) rfl w.heap.size _ (atL (sp, sf)) rfl (HZ.out.1.alloc _) wr.heap.size 1099511627777 rfl 3 (0, 0) (blk_new _ _) (by rw [HAL.out]; omega) (by have := HZ.out.2.2.1.size; simp; omega) ?_; intro v2 w2 hI2 hB2 hG2; obtain ⟨g2, c2, rfl, hg2w, hg2b⟩ := hI2.shape (n := S.length + 1) (by rw [List.length_append, HAL.out, HZ.out.2.2.2.2.2.1]; rfl) (by omega); have HW := Lib.hid (show _ ∧ _ ∧ _ from ⟨hI2, (HZ.out.2.1.alloc _).othr hG2 (ints_blk (HZ.out.1.alloc _)), (HZ.out.2.2.1.alloc HZ.out.2.2.1.size _).trans hB2⟩); clear hI2 hB2 hG2)
        have hA : atL (sp, sf) ++ [1099511627777] = atL (S, 1099511627777) := HZ.out.2.2.2.2.1.symm
        rw [hA] at HW
        have HY := Lib.hid (show Chain (S, 1099511627777) ∧ strs l k = S from ⟨HZ.out.2.2.2.1, HZ.out.2.2.2.2.2.2⟩)
        have hS256 : S.length ≤ 258 := by have := HZ.out.2.2.2.2.2.1; omega
        clear hA HZ HAL
        generalize hX : chTo l bef aft k = X at *
        have hXl : X.length ≤ 5000 := by
          rw [← hX]
          have h5 := chTo_len l bef aft k
          rw [HM.out.2.2] at h5
          have : k * (j + 1) ≤ 16 * 257 := Nat.mul_le_mul (by omega) (by omega)
          omega
        have HX := Lib.hid hX
        clear hX
        generalize hAA : atL (S, 1099511627777) = A at *
        have HAA := Lib.hid hAA
        clear hAA
        go_loopw [9, 13] (fun o i wr => ∃ (q : Nat) (oa : Option Addr) (om oc : Nat), q ≤ S.length ∧ i = .int .i64 q ∧ o = .slice oa om oc ∧ YsO wr w.heap.size (.slice oa om oc) ((S.take q).foldl (stepY l bef aft k) X) ∧ Ints wr w.heap.size (.slice (some ⟨g2, 0, none⟩) (S.length + 1) c2) A ∧ Below w.heap.size w wr) (fun _ i _ => S.length - (intOf i).toNat)
        case atStart => exact ⟨0, oa, om, oc, by omega, rfl, rfl, HW.out.2.1, HW.out.1, HW.out.2.2⟩
        case round =>
          clear HW
          obtain ⟨q, oa, om, oc, hq, rfl, rfl, hO, hI, hb⟩ := hrel
          by_cases hqn : q < S.length
          case neg =>
            obtain rfl : q = S.length := by omega
            rw [List.take_length] at hO
            have hfin : S.foldl (stepY l bef aft k) X = chTo l bef aft (k + 1) := by rw [← HX.out, ← HY.out.2]; rfl
            rw [hfin] at hO
            have HF := Lib.hid (show _ ∧ _ from ⟨hO, hb⟩)
            clear hO hI hb hfin
            go_wp2
            go_roundw
            case rel => exact ⟨k + 1, oa, om, oc, by omega, by go_num, rfl, HF.out.1, HF.out.2⟩
            case measure => simp [intOf]; omega
          obtain ⟨s, hs⟩ : ∃ s, S[q]? = some s := ⟨_, List.getElem?_eq_getElem hqn⟩
          obtain ⟨f, t⟩ := s
          obtain ⟨n1, n2⟩ := HY.out.1.nxt q (f, t) hs
          rw [HAA.out] at n1 n2
          have hAl : A.length = S.length + 1 := by rw [← HAA.out]; exact atL_len _
          have hts : (S.take (q + 1)).foldl (stepY l bef aft k) X = stepY l bef aft k ((S.take q).foldl (stepY l bef aft k) X) (f, t) := by
            rw [List.take_add_one, hs]; simp
          have hfl := foldY_len l bef aft k (S.take q) X
          have hml : ((S.take q).foldl (stepY l bef aft k) X).length ≤ 1100000 := by
            have : (S.take q).length ≤ q := List.length_take_le _ _
            omega
          generalize (S.take q).foldl (stepY l bef aft k) X = xs at *
          have HTS := Lib.hid hts
          have cF : wr.cell? ⟨g2, q, none⟩ = some (.int .i64 f) := hI.at' hAl n1
          have cT : wr.cell? ⟨g2, q + 1, none⟩ = some (.int .i64 t) := hI.at' hAl n2
          have hg2r : g2 < wr.heap.size := by
            obtain ⟨g', c', e', h', _⟩ := hI.shape hAl (by omega)
            simp at e'; omega
          have HR := Lib.hid (show _ ∧ _ ∧ _ ∧ _ from ⟨hO, hI, hb, hAl⟩)
          have HN := Lib.hid (show _ ∧ _ from ⟨n1, n2⟩)
          clear hs n1 n2 hAl hts hfl hO hI hb
          have hq1 : (q : Int) + 1 < (S.length : Int) + 1 := by omega
          have hqS : (q : Int) < (S.length : Int) + 1 := by omega
          go_wp2_with fail
          refine (differ_any a j cap b off l (k : Int) f bef aft wr (HM.out.1.grown HR.out.2.2.1) (by omega)).mono ?_
          rintro e WD ⟨rfl, hbd⟩
          have dF : WD.cell? ⟨g2, q, none⟩ = some (.int .i64 f) := (hbd.cell (p := ⟨g2, q, none⟩) hg2r).trans cF
          have dT : WD.cell? ⟨g2, q + 1, none⟩ = some (.int .i64 t) := (hbd.cell (p := ⟨g2, q + 1, none⟩) hg2r).trans cT
          have hgD : g2 < WD.heap.size := by have := hbd.size; omega
          have HD := Lib.hid (show _ ∧ _ ∧ _ ∧ _ from ⟨HR.out.1.below hbd (Nat.le_refl _), HR.out.2.1.below hbd (Nat.le_refl _), below_after HR.out.2.2.1 hbd HR.out.2.2.1.size, HR.out.2.2.2⟩)
          clear hbd cF cT HR hg2r
          by_cases hq0 : cnt l k f bef l.length = cnt l k f aft l.length
          case pos =>
            have N := Lib.hid (stepY_no (l := l) (bef := bef) (aft := aft) (d := k) (x := xs) (s := (f, t)) hq0)
            rw [decide_eq_false (fun h => h hq0)]
            clear hq0 dF dT
            go_wp2
            go_roundw
            case rel => exact ⟨q + 1, oa, om, oc, by omega, by go_num, rfl, by rw [HTS.out, N.out]; exact HD.out.1, HD.out.2.1, HD.out.2.2.1⟩
            case measure => simp [intOf]; omega
          have N := Lib.hid (stepY_yes (l := l) (bef := bef) (aft := aft) (d := k) (x := xs) (s := (f, t)) hq0)
          rw [decide_eq_true hq0]
          clear hq0
          have eF := cell_regrown dF
          obtain ⟨om', hom⟩ : ∃ m, m = xs.length := ⟨_, rfl⟩
          obtain rfl : om = xs.length := by
            obtain ⟨_, _, _, h', _⟩ := HD.out.1.s
            simp at h'
            exact h'.2.1
          rcases Nat.eq_zero_or_pos xs.length with hm | hm
          · have P := Lib.hid (pushY_app (d := k) (x := xs) (s := (f, t)) (by omega))
            obtain rfl : xs = [] := List.eq_nil_of_length_eq_zero hm
            have HV := Lib.hid (show YsO WD w.heap.size (.slice oa 0 oc) [] from HD.out.1)
            simp only [List.length_nil]
            clear hm hml hom
            go_wp2
            refine wp_region_quiet_below (by kernel_rfl) (by kernel_rfl) ?_
            repeat (go_big_quiet_step ((fail)))
            refine wpQuiet_nil ?_
            intro WR hr'
            have hr := of_regrown hr'
            clear hr'
            have rF : WR.cell? ⟨g2, q, none⟩ = some (.int .i64 f) := (hr.cell (p := ⟨g2, q, none⟩) hgD).trans dF
            have rT : WR.cell? ⟨g2, q + 1, none⟩ = some (.int .i64 t) := (hr.cell (p := ⟨g2, q + 1, none⟩) hgD).trans dT
            have hgR : g2 < WR.heap.size := by have := hr.size; omega
            have uF := cell_alloc_keep rF (.cells #[.int .i64 (k : Int), .int .i64 f, .int .i64 t] 40)
            have uT := cell_alloc_keep rT (.cells #[.int .i64 (k : Int), .int .i64 f, .int .i64 t] 40)
            have hr' := Lib.hid hr
            clear eF hr
            go_wp2
            have hwq : IntKind.i64.wrap ((q : Int) + 1) = (q : Int) + 1 := by rw [IntKind.wrap_i64]; omega
            have hwn : ¬ ((q : Int) + 1 < 0) := by omega
            have hwt : ((q : Int) + 1).toNat = q + 1 := by omega
            refine wp_region_from 0 12 (fun w' => w'.cell? ⟨g2, q, none⟩ = some (.int .i64 f) ∧ w'.cell? ⟨g2, q + 1, none⟩ = some (.int .i64 t)) (by kernel_rfl) (by kernel_rfl) (by decide) (by kernel_rfl) ⟨rF, rT⟩ ?_
            simp only [List.drop_zero, List.take_succ_cons, List.take_zero]
            refine wpHeld_cons (.slice oa 0 oc) (by kernel_rfl) ?_ ?_
            · intro w' s
              try go_simp
            refine wpHeld_cons (.int .i64 (k : Int)) (by kernel_rfl) ?_ ?_
            · intro w' s
              try go_simp
            refine wpHeld_cons (.slice (some ⟨g2, 0, none⟩) (S.length + 1) c2) (by kernel_rfl) ?_ ?_
            · intro w' s
              try go_simp
            refine wpHeld_cons (.int .i64 (q : Int)) (by kernel_rfl) ?_ ?_
            · intro w' s
              try go_simp
            refine wpHeld_cons (.pointer (some ⟨g2, q, none⟩)) (by kernel_rfl) ?_ ?_
            · intro w' s
              try go_simp
            refine wpHeld_cons (.int .i64 f) (by kernel_rfl) ?_ ?_
            · intro w' s
              have y0 := s.1
              try go_simp
            refine wpHeld_cons (.slice (some ⟨g2, 0, none⟩) (S.length + 1) c2) (by kernel_rfl) ?_ ?_
            · intro w' s
              try go_simp
            refine wpHeld_cons (.int .i64 (q : Int)) (by kernel_rfl) ?_ ?_
            · intro w' s
              try go_simp
            refine wpHeld_cons (.int .i64 ((q : Int) + 1)) (by kernel_rfl) ?_ ?_
            · intro w' s
              try go_simp
            refine wpHeld_cons (.pointer (some ⟨g2, q + 1, none⟩)) (by kernel_rfl) ?_ ?_
            · intro w' s
              try go_simp
            refine wpHeld_cons (.int .i64 t) (by kernel_rfl) ?_ ?_
            · intro w' s
              have y0 := s.2
              try go_simp
            refine wpHeld_cons (.agg #[.int .i64 (k : Int), .int .i64 f, .int .i64 t]) (by kernel_rfl) ?_ ?_
            · intro w' s
              try go_simp
            refine wpHeld_nil ?_
            go_simp
            clear hwq hwn hwt
            have HS := Lib.hid (show _ ∧ _ ∧ _ from ⟨((HV.out).below hr'.out (Nat.le_refl _)).below ((Below.refl _ _).drew) (Nat.le_refl _), (HD.out.2.1.below hr'.out (Nat.le_refl _)).below ((Below.refl _ _).drew) (Nat.le_refl _), (below_after HD.out.2.2.1 hr'.out HD.out.2.2.1.size).drew⟩)
            clear rF rT dF dT
            have HU := Lib.hid (show _ ∧ _ from ⟨uF, uT⟩)
            clear uF uT
            refine wpAnyH_one (i := 12) (by kernel_rfl) rfl (by kernel_rfl) (fun K' hK' => ?_)
            go_simp
            refine hK' _ _ (HU.out) ?_
            clear hK' K'
            go_simp
            refine wpAnyH_one (i := 13) (by kernel_rfl) rfl (by kernel_rfl) (fun K' hK' => ?_)
            refine wp_append_Y (.tmp 132) (.tmp 144) rfl w.heap.size (.slice oa 0 oc) [] rfl ((HS.out.1.alloc (.cells #[.int .i64 (k : Int), .int .i64 f, .int .i64 t] 40)).below (Below.refl _ _) (Nat.le_refl _)) WR.heap.size ((k : Int), f, t) rfl 40 (0, 0) (blk_new WR.drew _) (by first | omega | simp) (by have := HS.out.2.2.size; simp at this ⊢; omega) ?_
            intro v2 w2 hO2 hB2 hG2
            obtain ⟨ga2, m2, gc2, rfl⟩ : ∃ a m c, v2 = .slice a m c := (by obtain ⟨a', _, c', h', _⟩ := hO2.s; exact ⟨a', _, c', h'⟩)
            have HW := Lib.hid (show _ ∧ _ ∧ _ from ⟨hO2, (HS.out.2.1.alloc _).othr hG2 (ysO_blk (HS.out.1.alloc _)), (HS.out.2.2.alloc HS.out.2.2.size _).trans hB2⟩)
            clear hO2 hB2 hG2
            have hF2 : w2.cell? ⟨g2, q, none⟩ = some (.int .i64 f) ∧ w2.cell? ⟨g2, q + 1, none⟩ = some (.int .i64 t) := ⟨HW.out.2.1.at' HD.out.2.2.2 HN.out.1, HW.out.2.1.at' HD.out.2.2.2 HN.out.2⟩
            have HF2 := Lib.hid hF2
            clear hF2
            refine hK' _ _ (HF2.out) ?_
            clear hK' K'
            go_simp
            refine wpAnyH_one (i := 14) (by kernel_rfl) rfl (by kernel_rfl) (fun K' hK' => ?_)
            go_simp
            refine hK' _ _ (HF2.out) ?_
            clear hK' K'
            go_simp
            refine wpAnyH_done (by kernel_rfl) ?_ _
            refine NoPanic.normal ?_
            go_simp
            go_wp2
            go_roundw
            case rel => exact ⟨q + 1, ga2, m2, gc2, by omega, by go_num, rfl, by rw [HTS.out, N.out, P.out]; exact HW.out.1, HW.out.2.1, HW.out.2.2⟩
            case measure => simp [intOf]; omega
          · obtain ⟨i, hi⟩ : ∃ i, xs.length = i + 1 := ⟨xs.length - 1, by omega⟩
            have hge := encLY_get xs i (by omega)
            have hib : i < 1100000 := by omega
            obtain ⟨g, c, hvv, hgB⟩ := HD.out.1.inBlock hi (by omega)
            have hVO := HD.out.1
            rw [hvv] at hVO
            rw [hvv]
            clear hvv
            have p0 : WD.cell? ⟨g, i * 3, none⟩ = some (.int .i64 (nthY xs i).1) := (hVO.cellAt hi _ (by omega)).trans hge.1
            have p2 : WD.cell? ⟨g, i * 3 + 2, none⟩ = some (.int .i64 (nthY xs i).2.2) := (hVO.cellAt hi _ (by omega)).trans hge.2.2
            have pf := hVO.freeAt hi (i * 3 + 2)
            obtain ⟨_, curg, hgc⟩ := hVO.block
            have hgw := (Array.getElem?_eq_some_iff.1 hgc).1
            have hpS := fun h => pushY_set (d := k) (x := xs) (s := (f, t)) h
            have hpA := fun h => pushY_app (d := k) (x := xs) (s := (f, t)) h
            rw [hi, Nat.add_sub_cancel] at hpS hpA
            have HV := Lib.hid (show _ ∧ _ ∧ _ ∧ _ ∧ _ from ⟨hVO, hi, hpS, hpA, hgc⟩)
            clear hVO hi hpS hpA hge hm hgc hom
            generalize hy : nthY xs i = y at *
            obtain ⟨y0, y1, y2⟩ := y
            dsimp only at p0 p2
            have HYY := Lib.hid hy
            clear hy
            have p0' := cell_regrown p0; have p2' := cell_regrown p2
            have zi : decide ((0 : Int) < (i : Int) + 1) = true := decide_eq_true (by omega)
            by_cases q0 : y0 = (k : Int)
            case neg =>
              have z0 : (y0 == (k : Int)) = false := by simpa using q0
              have P := Lib.hid (HV.out.2.2.2.1 (fun h => q0 h.2.1))
              clear q0
              go_wp2
              refine wp_region_quiet_below (by kernel_rfl) (by kernel_rfl) ?_
              repeat (go_big_quiet_step ((fail)))
              refine wpQuiet_nil ?_
              intro WR hr'
              have hr := of_regrown hr'
              clear hr'
              have rF : WR.cell? ⟨g2, q, none⟩ = some (.int .i64 f) := (hr.cell (p := ⟨g2, q, none⟩) hgD).trans dF
              have rT : WR.cell? ⟨g2, q + 1, none⟩ = some (.int .i64 t) := (hr.cell (p := ⟨g2, q + 1, none⟩) hgD).trans dT
              have hgR : g2 < WR.heap.size := by have := hr.size; omega
              have uF := cell_alloc_keep rF (.cells #[.int .i64 (k : Int), .int .i64 f, .int .i64 t] 40)
              have uT := cell_alloc_keep rT (.cells #[.int .i64 (k : Int), .int .i64 f, .int .i64 t] 40)
              have hr' := Lib.hid hr
              clear eF hr p0' p2' p0 p2 pf
              go_wp2
              have hwq : IntKind.i64.wrap ((q : Int) + 1) = (q : Int) + 1 := by rw [IntKind.wrap_i64]; omega
              have hwn : ¬ ((q : Int) + 1 < 0) := by omega
              have hwt : ((q : Int) + 1).toNat = q + 1 := by omega
              refine wp_region_from 0 12 (fun w' => w'.cell? ⟨g2, q, none⟩ = some (.int .i64 f) ∧ w'.cell? ⟨g2, q + 1, none⟩ = some (.int .i64 t)) (by kernel_rfl) (by kernel_rfl) (by decide) (by kernel_rfl) ⟨rF, rT⟩ ?_
              simp only [List.drop_zero, List.take_succ_cons, List.take_zero]
              refine wpHeld_cons (.slice (some ⟨g, 0, none⟩) (i + 1) c) (by kernel_rfl) ?_ ?_
              · intro w' s
                try go_simp
              refine wpHeld_cons (.int .i64 (k : Int)) (by kernel_rfl) ?_ ?_
              · intro w' s
                try go_simp
              refine wpHeld_cons (.slice (some ⟨g2, 0, none⟩) (S.length + 1) c2) (by kernel_rfl) ?_ ?_
              · intro w' s
                try go_simp
              refine wpHeld_cons (.int .i64 (q : Int)) (by kernel_rfl) ?_ ?_
              · intro w' s
                try go_simp
              refine wpHeld_cons (.pointer (some ⟨g2, q, none⟩)) (by kernel_rfl) ?_ ?_
              · intro w' s
                try go_simp
              refine wpHeld_cons (.int .i64 f) (by kernel_rfl) ?_ ?_
              · intro w' s
                have y0 := s.1
                try go_simp
              refine wpHeld_cons (.slice (some ⟨g2, 0, none⟩) (S.length + 1) c2) (by kernel_rfl) ?_ ?_
              · intro w' s
                try go_simp
              refine wpHeld_cons (.int .i64 (q : Int)) (by kernel_rfl) ?_ ?_
              · intro w' s
                try go_simp
              refine wpHeld_cons (.int .i64 ((q : Int) + 1)) (by kernel_rfl) ?_ ?_
              · intro w' s
                try go_simp
              refine wpHeld_cons (.pointer (some ⟨g2, q + 1, none⟩)) (by kernel_rfl) ?_ ?_
              · intro w' s
                try go_simp
              refine wpHeld_cons (.int .i64 t) (by kernel_rfl) ?_ ?_
              · intro w' s
                have y0 := s.2
                try go_simp
              refine wpHeld_cons (.agg #[.int .i64 (k : Int), .int .i64 f, .int .i64 t]) (by kernel_rfl) ?_ ?_
              · intro w' s
                try go_simp
              refine wpHeld_nil ?_
              go_simp
              clear hwq hwn hwt
              have HS := Lib.hid (show _ ∧ _ ∧ _ from ⟨((HV.out.1).below hr'.out (Nat.le_refl _)).below ((Below.refl _ _).drew) (Nat.le_refl _), (HD.out.2.1.below hr'.out (Nat.le_refl _)).below ((Below.refl _ _).drew) (Nat.le_refl _), (below_after HD.out.2.2.1 hr'.out HD.out.2.2.1.size).drew⟩)
              clear rF rT dF dT
              have HU := Lib.hid (show _ ∧ _ from ⟨uF, uT⟩)
              clear uF uT
              refine wpAnyH_one (i := 12) (by kernel_rfl) rfl (by kernel_rfl) (fun K' hK' => ?_)
              go_simp
              refine hK' _ _ (HU.out) ?_
              clear hK' K'
              go_simp
              refine wpAnyH_one (i := 13) (by kernel_rfl) rfl (by kernel_rfl) (fun K' hK' => ?_)
              refine wp_append_Y (.tmp 132) (.tmp 144) rfl w.heap.size (.slice (some ⟨g, 0, none⟩) (i + 1) c) xs rfl ((HS.out.1.alloc (.cells #[.int .i64 (k : Int), .int .i64 f, .int .i64 t] 40)).below (Below.refl _ _) (Nat.le_refl _)) WR.heap.size ((k : Int), f, t) rfl 40 (0, 0) (blk_new WR.drew _) (by first | omega | simp) (by have := HS.out.2.2.size; simp at this ⊢; omega) ?_
              intro v2 w2 hO2 hB2 hG2
              obtain ⟨ga2, m2, gc2, rfl⟩ : ∃ a m c, v2 = .slice a m c := (by obtain ⟨a', _, c', h', _⟩ := hO2.s; exact ⟨a', _, c', h'⟩)
              have HW := Lib.hid (show _ ∧ _ ∧ _ from ⟨hO2, (HS.out.2.1.alloc _).othr hG2 (ysO_blk (HS.out.1.alloc _)), (HS.out.2.2.alloc HS.out.2.2.size _).trans hB2⟩)
              clear hO2 hB2 hG2
              have hF2 : w2.cell? ⟨g2, q, none⟩ = some (.int .i64 f) ∧ w2.cell? ⟨g2, q + 1, none⟩ = some (.int .i64 t) := ⟨HW.out.2.1.at' HD.out.2.2.2 HN.out.1, HW.out.2.1.at' HD.out.2.2.2 HN.out.2⟩
              have HF2 := Lib.hid hF2
              clear hF2
              refine hK' _ _ (HF2.out) ?_
              clear hK' K'
              go_simp
              refine wpAnyH_one (i := 14) (by kernel_rfl) rfl (by kernel_rfl) (fun K' hK' => ?_)
              go_simp
              refine hK' _ _ (HF2.out) ?_
              clear hK' K'
              go_simp
              refine wpAnyH_done (by kernel_rfl) ?_ _
              refine NoPanic.normal ?_
              go_simp
              go_wp2
              go_roundw
              case rel => exact ⟨q + 1, ga2, m2, gc2, by omega, by go_num, rfl, by rw [HTS.out, N.out, P.out]; exact HW.out.1, HW.out.2.1, HW.out.2.2⟩
              case measure => simp [intOf]; omega
            have z0 : (y0 == (k : Int)) = true := by simpa using q0
            by_cases q1 : y2 = f
            case neg =>
              have z1 : (y2 == f) = false := by simpa using q1
              have P := Lib.hid (HV.out.2.2.2.1 (fun h => q1 h.2.2))
              clear q0 q1
              go_wp2
              refine wp_region_quiet_below (by kernel_rfl) (by kernel_rfl) ?_
              repeat (go_big_quiet_step ((fail)))
              refine wpQuiet_nil ?_
              intro WR hr'
              have hr := of_regrown hr'
              clear hr'
              have rF : WR.cell? ⟨g2, q, none⟩ = some (.int .i64 f) := (hr.cell (p := ⟨g2, q, none⟩) hgD).trans dF
              have rT : WR.cell? ⟨g2, q + 1, none⟩ = some (.int .i64 t) := (hr.cell (p := ⟨g2, q + 1, none⟩) hgD).trans dT
              have hgR : g2 < WR.heap.size := by have := hr.size; omega
              have uF := cell_alloc_keep rF (.cells #[.int .i64 (k : Int), .int .i64 f, .int .i64 t] 40)
              have uT := cell_alloc_keep rT (.cells #[.int .i64 (k : Int), .int .i64 f, .int .i64 t] 40)
              have hr' := Lib.hid hr
              clear eF hr p0' p2' p0 p2 pf
              go_wp2
              have hwq : IntKind.i64.wrap ((q : Int) + 1) = (q : Int) + 1 := by rw [IntKind.wrap_i64]; omega
              have hwn : ¬ ((q : Int) + 1 < 0) := by omega
              have hwt : ((q : Int) + 1).toNat = q + 1 := by omega
              refine wp_region_from 0 12 (fun w' => w'.cell? ⟨g2, q, none⟩ = some (.int .i64 f) ∧ w'.cell? ⟨g2, q + 1, none⟩ = some (.int .i64 t)) (by kernel_rfl) (by kernel_rfl) (by decide) (by kernel_rfl) ⟨rF, rT⟩ ?_
              simp only [List.drop_zero, List.take_succ_cons, List.take_zero]
              refine wpHeld_cons (.slice (some ⟨g, 0, none⟩) (i + 1) c) (by kernel_rfl) ?_ ?_
              · intro w' s
                try go_simp
              refine wpHeld_cons (.int .i64 (k : Int)) (by kernel_rfl) ?_ ?_
              · intro w' s
                try go_simp
              refine wpHeld_cons (.slice (some ⟨g2, 0, none⟩) (S.length + 1) c2) (by kernel_rfl) ?_ ?_
              · intro w' s
                try go_simp
              refine wpHeld_cons (.int .i64 (q : Int)) (by kernel_rfl) ?_ ?_
              · intro w' s
                try go_simp
              refine wpHeld_cons (.pointer (some ⟨g2, q, none⟩)) (by kernel_rfl) ?_ ?_
              · intro w' s
                try go_simp
              refine wpHeld_cons (.int .i64 f) (by kernel_rfl) ?_ ?_
              · intro w' s
                have y0 := s.1
                try go_simp
              refine wpHeld_cons (.slice (some ⟨g2, 0, none⟩) (S.length + 1) c2) (by kernel_rfl) ?_ ?_
              · intro w' s
                try go_simp
              refine wpHeld_cons (.int .i64 (q : Int)) (by kernel_rfl) ?_ ?_
              · intro w' s
                try go_simp
              refine wpHeld_cons (.int .i64 ((q : Int) + 1)) (by kernel_rfl) ?_ ?_
              · intro w' s
                try go_simp
              refine wpHeld_cons (.pointer (some ⟨g2, q + 1, none⟩)) (by kernel_rfl) ?_ ?_
              · intro w' s
                try go_simp
              refine wpHeld_cons (.int .i64 t) (by kernel_rfl) ?_ ?_
              · intro w' s
                have y0 := s.2
                try go_simp
              refine wpHeld_cons (.agg #[.int .i64 (k : Int), .int .i64 f, .int .i64 t]) (by kernel_rfl) ?_ ?_
              · intro w' s
                try go_simp
              refine wpHeld_nil ?_
              go_simp
              clear hwq hwn hwt
              have HS := Lib.hid (show _ ∧ _ ∧ _ from ⟨((HV.out.1).below hr'.out (Nat.le_refl _)).below ((Below.refl _ _).drew) (Nat.le_refl _), (HD.out.2.1.below hr'.out (Nat.le_refl _)).below ((Below.refl _ _).drew) (Nat.le_refl _), (below_after HD.out.2.2.1 hr'.out HD.out.2.2.1.size).drew⟩)
              clear rF rT dF dT
              have HU := Lib.hid (show _ ∧ _ from ⟨uF, uT⟩)
              clear uF uT
              refine wpAnyH_one (i := 12) (by kernel_rfl) rfl (by kernel_rfl) (fun K' hK' => ?_)
              go_simp
              refine hK' _ _ (HU.out) ?_
              clear hK' K'
              go_simp
              refine wpAnyH_one (i := 13) (by kernel_rfl) rfl (by kernel_rfl) (fun K' hK' => ?_)
              refine wp_append_Y (.tmp 132) (.tmp 144) rfl w.heap.size (.slice (some ⟨g, 0, none⟩) (i + 1) c) xs rfl ((HS.out.1.alloc (.cells #[.int .i64 (k : Int), .int .i64 f, .int .i64 t] 40)).below (Below.refl _ _) (Nat.le_refl _)) WR.heap.size ((k : Int), f, t) rfl 40 (0, 0) (blk_new WR.drew _) (by first | omega | simp) (by have := HS.out.2.2.size; simp at this ⊢; omega) ?_
              intro v2 w2 hO2 hB2 hG2
              obtain ⟨ga2, m2, gc2, rfl⟩ : ∃ a m c, v2 = .slice a m c := (by obtain ⟨a', _, c', h', _⟩ := hO2.s; exact ⟨a', _, c', h'⟩)
              have HW := Lib.hid (show _ ∧ _ ∧ _ from ⟨hO2, (HS.out.2.1.alloc _).othr hG2 (ysO_blk (HS.out.1.alloc _)), (HS.out.2.2.alloc HS.out.2.2.size _).trans hB2⟩)
              clear hO2 hB2 hG2
              have hF2 : w2.cell? ⟨g2, q, none⟩ = some (.int .i64 f) ∧ w2.cell? ⟨g2, q + 1, none⟩ = some (.int .i64 t) := ⟨HW.out.2.1.at' HD.out.2.2.2 HN.out.1, HW.out.2.1.at' HD.out.2.2.2 HN.out.2⟩
              have HF2 := Lib.hid hF2
              clear hF2
              refine hK' _ _ (HF2.out) ?_
              clear hK' K'
              go_simp
              refine wpAnyH_one (i := 14) (by kernel_rfl) rfl (by kernel_rfl) (fun K' hK' => ?_)
              go_simp
              refine hK' _ _ (HF2.out) ?_
              clear hK' K'
              go_simp
              refine wpAnyH_done (by kernel_rfl) ?_ _
              refine NoPanic.normal ?_
              go_simp
              go_wp2
              go_roundw
              case rel => exact ⟨q + 1, ga2, m2, gc2, by omega, by go_num, rfl, by rw [HTS.out, N.out, P.out]; exact HW.out.1, HW.out.2.1, HW.out.2.2⟩
              case measure => simp [intOf]; omega
            have z1 : (y2 == f) = true := by simpa using q1
            have P := Lib.hid (HV.out.2.2.1 ⟨by omega, q0, q1⟩)
            clear q0 q1
            go_wp2
            refine wp_region_quiet_below (by kernel_rfl) (by kernel_rfl) ?_
            repeat (go_big_quiet_step ((fail)))
            refine wpQuiet_nil ?_
            intro WR hr'
            have hr := of_regrown hr'
            clear hr'
            have rT := cell_regrown ((hr.cell (p := ⟨g2, q + 1, none⟩) hgD).trans dT)
            have hr' := Lib.hid hr
            clear p0' p2' eF hr
            go_wp2
            refine wp_region_grow_tail 10 (by kernel_rfl) (by kernel_rfl) ?_
            simp only [List.take_succ_cons, List.take_zero, List.drop_succ_cons, List.drop_zero]
            repeat (go_big_quiet_step ((fail)))
            refine wpQuiet_nil ?_
            intro WS hs'
            have hs := of_regrown hs'
            clear hs'
            have hrs := below_after hr'.out hs hr'.out.size
            have s2 : WS.cell? ⟨g, i * 3 + 2, none⟩ = _ := (hrs.cell (p := ⟨g, i * 3 + 2, none⟩) hgw).trans p2
            have sf' : WS.frozen? ⟨g, i * 3 + 2, none⟩ = _ := (hrs.frozen (p := ⟨g, i * 3 + 2, none⟩) hgw).trans pf
            have hYs := ((HV.out.1.below hrs (Nat.le_refl _)).set2 HV.out.2.1 i (by rw [HV.out.2.1]; omega) t)
            rw [HYY.out] at hYs
            have HS := Lib.hid (show _ ∧ _ ∧ _ from ⟨hYs, (HD.out.2.1.below hrs (Nat.le_refl _)).setOthr (i := i * 3 + 2) (u := .int .i64 t) (blk_below HV.out.2.2.2.2 hrs hgw), (below_after HD.out.2.2.1 hrs HD.out.2.2.1.size).setCell (p := ⟨g, i * 3 + 2, none⟩) hgB (.int .i64 t)⟩)
            clear hYs hrs hs dF dT p0 p2 pf rT
            go_wp2
            clear s2 sf'
            go_roundw
            case rel => exact ⟨q + 1, _, _, _, by omega, by go_num, rfl, by rw [HTS.out, N.out, P.out]; exact HS.out.1, HS.out.2.1, HS.out.2.2⟩
            case measure => simp [intOf]; omega
      have hjn' : (j : Int) < n := by omega
      obtain ⟨rfl, hbw⟩ := HM.out.1.2.1 (by omega)
      obtain ⟨c0, c1, c2', c3, c4⟩ := (HM.out.1.grown hb).2.2 j hjn
      have hjl : j < l.length := by rw [HM.out.2.2]; exact hjn
      generalize hx : nthR l j = x at *
      obtain ⟨x0, x1, x2, x3, x4⟩ := x
      generalize hst : strTo l k j = st at *
      obtain ⟨sp, sf⟩ := st
      dsimp only at *
      have cA : wr.cell? ⟨g, sp.length, none⟩ = some (.int .i64 sf) := hI.at' (atL_len _) hch.last
      have hgw : g < wr.heap.size := by
        obtain ⟨g', c', e', h', _⟩ := hI.shape (atL_len (sp, sf)) (by omega)
        simp at e'; omega
      have hlf := fun h => hle hjl h
      have HZ := Lib.hid (show _ ∧ _ ∧ _ ∧ _ ∧ _ from ⟨hI, hO, hb, hsk, hmo⟩)
      have HLF := Lib.hid hlf
      have b0 := cell_regrown c0; have b1 := cell_regrown c1; have bA := cell_regrown cA
      clear hx hst hI hO hb hsk hmo hch hle hlf c2' c3 c4
      by_cases q0 : x0 = (k : Int)
      case neg =>
        have z0 : (x0 == (k : Int)) = false := by simpa using q0
        have N := Lib.hid (HZ.out.2.2.2.1 (.inl q0))
        clear q0 hls
        go_wp2
        refine wp_region_quiet_below (by kernel_rfl) (by kernel_rfl) ?_
        repeat (go_big_quiet_step ((fail)))
        refine wpQuiet_nil ?_
        intro WQ hq'
        have hq := of_regrown hq'
        clear hq'
        go_wp2
        go_roundw
        case rel => exact ⟨j + 1, g, c, by omega, by go_num, by rw [N.out], by rw [N.out]; exact HZ.out.1.below hq (Nat.le_refl _), HZ.out.2.1.below hq (Nat.le_refl _), below_after HZ.out.2.2.1 hq HZ.out.2.2.1.size⟩
        case measure => simp [intOf]; omega
      have z0 : (x0 == (k : Int)) = true := by simpa using q0
      have hle2 := HLF.out q0
      have hsp : sp.length ≤ 256 := by omega
      clear hls
      by_cases q1 : sf < x1
      case neg =>
        have z1 : decide (sf < x1) = false := decide_eq_false q1
        have N := Lib.hid (HZ.out.2.2.2.1 (.inr (by omega)))
        clear q0 q1 hle2
        go_wp2
        refine wp_region_quiet_below (by kernel_rfl) (by kernel_rfl) ?_
        repeat (go_big_quiet_step ((fail)))
        refine wpQuiet_nil ?_
        intro WQ hq'
        have hq := of_regrown hq'
        clear hq'
        go_wp2
        go_roundw
        case rel => exact ⟨j + 1, g, c, by omega, by go_num, by rw [N.out], by rw [N.out]; exact HZ.out.1.below hq (Nat.le_refl _), HZ.out.2.1.below hq (Nat.le_refl _), below_after HZ.out.2.2.1 hq HZ.out.2.2.1.size⟩
        case measure => simp [intOf]; omega
      have z1 : decide (sf < x1) = true := decide_eq_true q1
      have N := Lib.hid (HZ.out.2.2.2.2 q0 (by omega))
      clear q0 q1 hle2
      go_wp2
      refine wp_region_quiet_below (by kernel_rfl) (by kernel_rfl) ?_
      repeat (go_big_quiet_step ((fail)))
      refine wpQuiet_nil ?_
      intro WQ hq'
      have hq := of_regrown hq'
      clear hq'
      have hbq : b < WQ.heap.size := by have := hq.size; have := HZ.out.2.2.1.size; omega
      have d1 : WQ.cell? ⟨b, off + j * 5 + 1, none⟩ = _ := (hq.cell (p := ⟨b, off + j * 5 + 1, none⟩) (by have := HZ.out.2.2.1.size; show b < wr.heap.size; omega)).trans c1
      have HQ := Lib.hid (show _ ∧ _ ∧ _ from ⟨HZ.out.1.below hq (Nat.le_refl _), HZ.out.2.1.below hq (Nat.le_refl _), below_after HZ.out.2.2.1 hq HZ.out.2.2.1.size⟩)
      have HAL := Lib.hid (atL_len (sp, sf))
      clear b0 b1 bA c0 c1 cA hq
      go_wp2_with (at_builtin; refine wpList_append_int rfl (.tmp 67) (.tmp 73) rfl w.heap.size _ (atL (sp, sf)) rfl (HQ.out.1.alloc _) WQ.heap.size x1 rfl 3 (0, 0) (blk_new _ _) (by rw [HAL.out]; dsimp only; omega) (by have := HQ.out.2.2.size; simp; omega) ?_; intro v2 w2 hI2 hB2 hG2; obtain ⟨g3, c3, rfl, hg3w, hg3b⟩ := hI2.shape (n := sp.length + 1 + 1) (by rw [List.length_append, HAL.out]; rfl) (by omega); have HW := Lib.hid (show _ ∧ _ ∧ _ from ⟨hI2, (HQ.out.2.1.alloc _).othr hG2 (ints_blk (HQ.out.1.alloc _)), (HQ.out.2.2.alloc HQ.out.2.2.size _).trans hB2⟩); clear hI2 hB2 hG2)
      clear d1
      go_roundw
      case rel => exact ⟨j + 1, g3, c3, by omega, by go_num, by rw [N.out]; simp, by rw [N.out]; have h5 := HW.out.1; simpa [atL] using h5, HW.out.2.1, HW.out.2.2⟩
      case measure => simp [intOf]; omega
end Go.Proofs.Ytjedpemjifcciaa
