/- CalibrateOrder (layer 42). -/
import Derived.Test.YtjedpemjifcciaaCalOrd
import Derived.Test.YtjedpemjifcciaaCalSane
import Derived.OpenShut
import Derived.BigRegion
import Derived.WalkKit
import Derived.ProofKit
namespace Go.Proofs.Ytjedpemjifcciaa
open Go.ChangeShapes Go.WideShapes Go.ChangeAt Go.RowKit Go.Sort Go.Shelf

/-- A slice of bytes: what lies in it. -/
structure RowU (w : World) (a : Option Addr) (b off n : Nat) (l : List Int) : Prop where
  adr : 0 < n → a = some ⟨b, off, none⟩
  old : 0 < n → b < w.heap.size
  cel : ∀ i, i < n → w.cell? ⟨b, off + i, none⟩ = some (.int .u8 (l.getD i 0)) ∧ 0 ≤ l.getD i 0 ∧ l.getD i 0 ≤ 255
theorem RowU.below {w w' : World} {a : Option Addr} {b off n : Nat} {l : List Int} (h : RowU w a b off n l) (hb : Below w.heap.size w w') : RowU w' a b off n l :=
  ⟨h.adr, fun hn => Nat.lt_of_lt_of_le (h.old hn) hb.size, fun i hi => ⟨(hb.cell (p := ⟨b, off + i, none⟩) (h.old (by omega))).trans (h.cel i hi).1, (h.cel i hi).2⟩⟩
theorem wrap_id {v : Int} (h : -9223372036854775808 ≤ v ∧ v ≤ 9223372036854775807) : IntKind.i64.wrap v = v := by rw [IntKind.wrap_i64]; omega
theorem boxB {B : Nat} {a w : World} {b o : Nat} {u0 u1 u2 u3 u4 : Value} (hb : B ≤ b) (h : Below B a w) : Below B a (((((w.setCell ⟨b, o, none⟩ u0).setCell ⟨b, o + 1, none⟩ u1).setCell ⟨b, o + 2, none⟩ u2).setCell ⟨b, o + 3, none⟩ u3).setCell ⟨b, o + 4, none⟩ u4) :=
  (((((h.setCell (p := ⟨b, o, none⟩) hb _).setCell (p := ⟨b, o + 1, none⟩) hb _).setCell (p := ⟨b, o + 2, none⟩) hb _).setCell (p := ⟨b, o + 3, none⟩) hb _).setCell (p := ⟨b, o + 4, none⟩) hb _)
theorem rowU_of {w : World} {a : Option Addr} {len cap : Nat} {zs : List Int} (h : (a = none ∧ len = 0 ∧ cap = 0 ∧ zs = []) ∨
    ∃ x, a = some x ∧ len ≤ cap ∧ cap ≤ maxLen ∧ zs.length = cap ∧ (∀ i, i < zs.length → w.cell? (x.add i) = some (.int .u8 (zs.getD i 0))) ∧ ∀ n ∈ zs, (Lit.int .u8 n).wf = true) :
    ∃ b off, RowU w a b off len zs ∧ len ≤ 9223372036854775807 := by
  rcases h with ⟨rfl, rfl, rfl, rfl⟩ | ⟨x, rfl, hl, hm, hz, hc, hw⟩
  · exact ⟨0, 0, ⟨fun h => by omega, fun h => by omega, fun i hi => by omega⟩, by omega⟩
  · unfold maxLen at hm
    by_cases h0 : 0 < zs.length
    · obtain ⟨b, off, rfl, hcc⟩ := ints_at hc h0
      refine ⟨b, off, ⟨fun _ => rfl, fun _ => by have := World.block_lt_of_cell? w _ (hcc 0 h0); simpa using this, fun i hi => ?_⟩, by omega⟩
      have hi2 : i < zs.length := by omega
      have hb := bounds_u8 (hw (zs.getD i 0) (by
        rw [List.getD_eq_getElem?_getD, List.getElem?_eq_getElem hi2]
        exact List.getElem_mem hi2))
      exact ⟨hcc i hi2, hb.1, hb.2⟩
    · obtain rfl : len = 0 := by omega
      exact ⟨0, 0, ⟨fun h => by omega, fun h => by omega, fun i hi => by omega⟩, by omega⟩

set_option maxRecDepth 100000 in
set_option maxHeartbeats 16000000 in
theorem orderLaw_walk (a : Option Addr) (n cap b off : Nat) (l : List Rt) (ta : Option Addr) (tn tcap tb toff : Nat) (ts : List Int) (w : World) (h : Rs w a n b off l) (hz : a = none → cap = 0) (hT : RowU w ta tb toff tn ts) (htn : tn ≤ 9223372036854775807) :
    Calls Try.prog 8 #[.slice a n cap, .slice ta tn tcap] w fun e w' => e = .returned (.bool true) ∧ Below w.heap.size w w' := by
  have hl := h.1
  have HM := Lib.hid (show _ ∧ _ ∧ _ ∧ _ from ⟨h, hT, hl, hz⟩)
  clear h hT hz
  go_enter Try.func8, Try.ntmps8
  go_wp2_with fail
  refine (sane_any w).mono ?_
  rintro e W1 ⟨rfl, hb1⟩
  have H1 := Lib.hid hb1
  clear hb1
  by_cases h40 : 40 < n
  · have z : decide (40 < (n : Int)) = true := decide_eq_true (by omega)
    go_wp2
    exact bodyPost_ret (v := .bool true) (by simp [results, Try.results8, go_sem]) rfl ⟨rfl, H1.out⟩
  have z : decide (40 < (n : Int)) = false := decide_eq_false (by omega)
  go_wp2_with fail
  clear z
  refine (all_any a n cap b off l W1 (HM.out.1.grown H1.out) (by omega)).mono ?_
  rintro e W2 ⟨v, x, ok, rfl, hO, hgd, hng, hb⟩
  obtain ⟨xa, xb, xc, rfl, hX, -⟩ := hO.s
  generalize hxl : x.length = xn at *
  have hxn : ok = true → xn = n := fun e => by rw [← hxl, (hgd e).2.length_eq, hl]
  have H2 := Lib.hid (show _ ∧ _ ∧ _ ∧ _ ∧ _ from ⟨below_after H1.out hb H1.out.size, hX, hgd, hng, hxn⟩)
  clear hO hX hgd hng hb H1 hl hxn hxl
  have hs2 := H2.out.1.size
  go_wp2_with (at_builtin; refine wpList_append_Rs rfl (.tmp 25) (.tmp 26) rfl W2.heap.size _ [] rfl (RsO.empty W2) a b off n cap l rfl (HM.out.1.grown (H2.out.1.alloc hs2 _)) HM.out.2.2.2 (by simp; omega) (by simp) ?_; intro v8 W3 h1 h2 _; rw [List.nil_append] at h1; obtain ⟨am, bm, cm, rfl, -⟩ := h1.s; rw [HM.out.2.2.1] at h1 ⊢; have H3 := Lib.hid (show _ ∧ _ from ⟨h1, ((Below.refl W2.heap.size W2).alloc (Nat.le_refl _) _).trans h2⟩); clear h1 h2)
  go_loopw [30] (fun i wr => ∃ (k : Nat) (lm : List Rt), k ≤ tn ∧ i = .int .i64 k ∧ RsO wr W2.heap.size (.slice am n cm) lm ∧ l.Perm lm ∧ Below W2.heap.size W2 wr) (fun i _ => tn - (intOf i).toNat)
  case atStart => exact ⟨0, l, Nat.zero_le _, rfl, H3.out.1, List.Perm.refl _, H3.out.2⟩
  case round =>
    clear H3
    obtain ⟨k, lm, hk, rfl, hJ, hp, hb⟩ := hrel
    have hlm : lm.length = n := by rw [← hp.length_eq, HM.out.2.2.1]
    by_cases hlt : k < tn
    case neg =>
      obtain rfl : k = tn := by omega
      have hkk : decide ((k : Int) < k) = false := by simp
      obtain ⟨am', bm, cm', ev, hA, -⟩ := hJ.s
      rw [hlm] at ev hA
      injection ev with ev1 ev2 ev3
      subst ev1 ev3
      clear ev2
      have HL := Lib.hid (show _ ∧ _ ∧ _ from ⟨hA, hp, hb⟩)
      have HB := Lib.hid (below_after H2.out.1 hb H2.out.1.size)
      have HX := Lib.hid (H2.out.2.1.grown hb)
      clear hA hp hb hJ hlm
      go_wp2_with fail
      refine (all_any am n cm bm 0 lm wr HL.out.1 (by omega)).mono ?_
      rintro e W5 ⟨v, y, is, rfl, hO, hgd, hng, hb⟩
      have his : ok = is := by
        cases ok <;> cases is
        · rfl
        · exact absurd (good_perm ((hgd rfl).2.trans HL.out.2.1.symm) (recs_good (hgd rfl).1)) (H2.out.2.2.2.1 rfl)
        · exact absurd (good_perm ((H2.out.2.2.1 rfl).2.trans HL.out.2.1) (recs_good (H2.out.2.2.1 rfl).1)) (hng rfl)
        · rfl
      subst his
      obtain ⟨ya, yb, yc, rfl, hY, -⟩ := hO.s
      have HB5 := Lib.hid (show _ ∧ _ ∧ _ from ⟨below_after HB.out hb HB.out.size, HX.out.grown hb, hY⟩)
      cases ok
      case false =>
        clear hO hgd hng hb hY
        clear hkk
        go_wp2
        exact bodyPost_ret (v := .bool true) (by simp [results, Try.results8, go_sem]) rfl ⟨rfl, HB5.out.1⟩
      obtain ⟨r1, p1⟩ := H2.out.2.2.1 rfl
      obtain ⟨r2, p2⟩ := hgd rfl
      have hxy : x = y := add_all r1 p1 r2 (p2.trans HL.out.2.1.symm)
      subst hxy
      obtain rfl := H2.out.2.2.2.2 rfl
      have HC := Lib.hid (chkR_yes r1)
      have hxl : x.length = xn := by rw [p1.length_eq, HM.out.2.2.1]
      rw [hxl] at HB5 ⊢
      clear hO hgd hng hb hY r1 r2 p1 p2 hxl hkk
      go_wp2_with fail
      refine (rsame_any xa xn xc xb 0 x ya xn yc yb 0 x W5 HB5.out.2.1 HB5.out.2.2 (by omega) (by omega)).mono ?_
      rintro e W6 ⟨rfl, hb⟩
      rw [decide_eq_true rfl]
      have HB6 := Lib.hid (show _ ∧ _ from ⟨below_after HB5.out.1 hb HB5.out.1.size, HB5.out.2.1.grown hb⟩)
      clear hb
      have zn : ((xn : Int) == xn) = true := by simp
      go_wp2_with fail
      refine (check_any xa xn xc xb 0 x W6 HB6.out.2 (by omega)).mono ?_
      rintro e W7 ⟨rfl, hb⟩
      rw [HC.out]
      have HB7 := Lib.hid (below_after HB6.out.1 hb HB6.out.1.size)
      clear hb
      go_wp2
      exact bodyPost_ret (v := .bool true) (by simp [results, Try.results8, go_sem]) rfl ⟨rfl, HB7.out⟩
    have hBw := below_after H2.out.1 hb H2.out.1.size
    obtain ⟨ct, ct0, ct1⟩ := (HM.out.2.1.below hBw).cel k hlt
    obtain rfl := HM.out.2.1.adr (by omega)
    obtain ⟨u, hu⟩ : ∃ u : Nat, ts.getD k 0 = u := ⟨(ts.getD k 0).toNat, by omega⟩
    rw [hu] at ct ct1
    clear hBw hu ct0
    have i1 : (k : Int) < (tn : Int) := by omega
    by_cases hkn : k < n
    case neg =>
      have z : decide ((k : Int) < n) = false := decide_eq_false (by omega)
      have HN := Lib.hid (show _ ∧ _ ∧ _ from ⟨hJ, hp, hb⟩)
      clear hJ hp hb
      go_wp2
      go_roundw
      case rel => exact ⟨k + 1, lm, by omega, by go_num, HN.out.1, HN.out.2.1, HN.out.2.2⟩
      case measure => simp [intOf] <;> omega
    have z : decide ((k : Int) < n) = true := decide_eq_true (by omega)
    obtain ⟨D, hD⟩ : ∃ D : Nat, D = n - k := ⟨_, rfl⟩
    have eD : (n : Int) - (k : Int) = (D : Int) := by omega
    have hD0 : ((D : Int) == 0) = false := by simp; omega
    obtain ⟨C, hC⟩ : ∃ C : Nat, C = u % D := ⟨_, rfl⟩
    have hCD : C < D := by rw [hC]; exact Nat.mod_lt _ (by omega)
    have ec1 : Int.tmod (u : Int) (D : Int) = (C : Int) := by rw [hC]; rfl
    have wD : IntKind.i64.wrap (D : Int) = (D : Int) := wrap_id (by omega)
    have wu : IntKind.i64.wrap (u : Int) = (u : Int) := wrap_id (by omega)
    have wC : IntKind.i64.wrap (C : Int) = (C : Int) := wrap_id (by omega)
    clear hC
    obtain ⟨E, hE⟩ : ∃ E : Nat, E = k + C := ⟨_, rfl⟩
    have eE : (k : Int) + (C : Int) = (E : Int) := by omega
    have wE : IntKind.i64.wrap (E : Int) = (E : Int) := wrap_id (by omega)
    have hEn : E < n := by omega
    have iE : (E : Int) < n := by omega
    clear hE hD
    obtain ⟨g, cg, ev, hgB⟩ := hJ.inBlock hlm (by omega)
    injection ev with ev1 ev2 ev3
    subst ev1
    have HN := Lib.hid (show _ ∧ _ ∧ _ from ⟨hJ, hp, hb⟩)
    clear hJ hp hb
    obtain ⟨e0, e1, e2, e3, e4⟩ := encLR_get lm k (by omega)
    obtain ⟨f0, f1, f2, f3, f4⟩ := encLR_get lm E (by omega)
    have a0 := (HN.out.1.cellAt hlm (k * 5) (by omega)).trans e0
    have a1 := (HN.out.1.cellAt hlm (k * 5 + 1) (by omega)).trans e1
    have a2 := (HN.out.1.cellAt hlm (k * 5 + 2) (by omega)).trans e2
    have a3 := (HN.out.1.cellAt hlm (k * 5 + 3) (by omega)).trans e3
    have a4 := (HN.out.1.cellAt hlm (k * 5 + 4) (by omega)).trans e4
    have b0 := (HN.out.1.cellAt hlm (E * 5) (by omega)).trans f0
    have b1 := (HN.out.1.cellAt hlm (E * 5 + 1) (by omega)).trans f1
    have b2 := (HN.out.1.cellAt hlm (E * 5 + 2) (by omega)).trans f2
    have b3 := (HN.out.1.cellAt hlm (E * 5 + 3) (by omega)).trans f3
    have b4 := (HN.out.1.cellAt hlm (E * 5 + 4) (by omega)).trans f4
    have fg := fun j => HN.out.1.freeAt hlm j
    have HP := Lib.hid (swap_perm (l := lm) (i := k) (j := E) (by omega) (by omega))
    have HS := Lib.hid (fun (m : Rt) => HN.out.1.stored hlm k hkn m)
    generalize hx : nthR lm k = x at *
    generalize hy : nthR lm E = y at *
    obtain ⟨x0, x1, x2, x3, x4⟩ := x
    obtain ⟨y0, y1, y2, y3, y4⟩ := y
    dsimp only at a0 a1 a2 a3 a4 b0 b1 b2 b3 b4
    clear e0 e1 e2 e3 e4 f0 f1 f2 f3 f4
    have HXY := Lib.hid (show _ ∧ _ from ⟨hx, hy⟩)
    clear hx hy
    go_upto_region 13 with fail
    by_cases hkE : k = E
    · subst hkE
      have hxy : (x0, x1, x2, x3, x4) = (y0, y1, y2, y3, y4) := HXY.out.1.symm.trans HXY.out.2
      cases hxy
      clear b0 b1 b2 b3 b4
      go_region
      clear a0 a1 a2 a3 a4 fg
      have HQ := Lib.hid (show RsO (((((((((((wr.setCell ⟨g, k * 5, none⟩ (.int .i64 x0)).setCell ⟨g, k * 5 + 1, none⟩ (.int .i64 x1)).setCell ⟨g, k * 5 + 2, none⟩ (.int .i64 x2)).setCell ⟨g, k * 5 + 3, none⟩ (.int .i64 x3)).setCell ⟨g, k * 5 + 4, none⟩ (.int .i64 x4)).setCell ⟨g, k * 5, none⟩ (.int .i64 x0)).setCell ⟨g, k * 5 + 1, none⟩ (.int .i64 x1)).setCell ⟨g, k * 5 + 2, none⟩ (.int .i64 x2)).setCell ⟨g, k * 5 + 3, none⟩ (.int .i64 x3)).setCell ⟨g, k * 5 + 4, none⟩ (.int .i64 x4)).drew) W2.heap.size (.slice (some ⟨g, 0, none⟩) n cm) ((lm.set k (x0, x1, x2, x3, x4)).set k (x0, x1, x2, x3, x4)) ∧ Below W2.heap.size W2 (((((((((((wr.setCell ⟨g, k * 5, none⟩ (.int .i64 x0)).setCell ⟨g, k * 5 + 1, none⟩ (.int .i64 x1)).setCell ⟨g, k * 5 + 2, none⟩ (.int .i64 x2)).setCell ⟨g, k * 5 + 3, none⟩ (.int .i64 x3)).setCell ⟨g, k * 5 + 4, none⟩ (.int .i64 x4)).setCell ⟨g, k * 5, none⟩ (.int .i64 x0)).setCell ⟨g, k * 5 + 1, none⟩ (.int .i64 x1)).setCell ⟨g, k * 5 + 2, none⟩ (.int .i64 x2)).setCell ⟨g, k * 5 + 3, none⟩ (.int .i64 x3)).setCell ⟨g, k * 5 + 4, none⟩ (.int .i64 x4)).drew) from
        ⟨((HS.out (x0, x1, x2, x3, x4)).stored (by simp [hlm]) k hkn (x0, x1, x2, x3, x4)).below (Below.refl _ _).drew (Nat.le_refl _), (boxB hgB (boxB hgB HN.out.2.2)).drew⟩)
      generalize ((((((((((wr.setCell ⟨g, k * 5, none⟩ (.int .i64 x0)).setCell ⟨g, k * 5 + 1, none⟩ (.int .i64 x1)).setCell ⟨g, k * 5 + 2, none⟩ (.int .i64 x2)).setCell ⟨g, k * 5 + 3, none⟩ (.int .i64 x3)).setCell ⟨g, k * 5 + 4, none⟩ (.int .i64 x4)).setCell ⟨g, k * 5, none⟩ (.int .i64 x0)).setCell ⟨g, k * 5 + 1, none⟩ (.int .i64 x1)).setCell ⟨g, k * 5 + 2, none⟩ (.int .i64 x2)).setCell ⟨g, k * 5 + 3, none⟩ (.int .i64 x3)).setCell ⟨g, k * 5 + 4, none⟩ (.int .i64 x4)).drew = W6 at *
      clear eD hD0 ec1 wD wu wC wE eE ct hlm HS z
      go_wp2
      go_roundw
      case rel => exact ⟨k + 1, _, by omega, by go_num, HQ.out.1, HN.out.2.1.trans HP.out, HQ.out.2⟩
      case measure => simp [intOf] <;> omega
    go_region
    clear a0 a1 a2 a3 a4 fg b0 b1 b2 b3 b4
    have HQ := Lib.hid (show RsO (((((((((((wr.setCell ⟨g, k * 5, none⟩ (.int .i64 y0)).setCell ⟨g, k * 5 + 1, none⟩ (.int .i64 y1)).setCell ⟨g, k * 5 + 2, none⟩ (.int .i64 y2)).setCell ⟨g, k * 5 + 3, none⟩ (.int .i64 y3)).setCell ⟨g, k * 5 + 4, none⟩ (.int .i64 y4)).setCell ⟨g, E * 5, none⟩ (.int .i64 x0)).setCell ⟨g, E * 5 + 1, none⟩ (.int .i64 x1)).setCell ⟨g, E * 5 + 2, none⟩ (.int .i64 x2)).setCell ⟨g, E * 5 + 3, none⟩ (.int .i64 x3)).setCell ⟨g, E * 5 + 4, none⟩ (.int .i64 x4)).drew) W2.heap.size (.slice (some ⟨g, 0, none⟩) n cm) ((lm.set k (y0, y1, y2, y3, y4)).set E (x0, x1, x2, x3, x4)) ∧ Below W2.heap.size W2 (((((((((((wr.setCell ⟨g, k * 5, none⟩ (.int .i64 y0)).setCell ⟨g, k * 5 + 1, none⟩ (.int .i64 y1)).setCell ⟨g, k * 5 + 2, none⟩ (.int .i64 y2)).setCell ⟨g, k * 5 + 3, none⟩ (.int .i64 y3)).setCell ⟨g, k * 5 + 4, none⟩ (.int .i64 y4)).setCell ⟨g, E * 5, none⟩ (.int .i64 x0)).setCell ⟨g, E * 5 + 1, none⟩ (.int .i64 x1)).setCell ⟨g, E * 5 + 2, none⟩ (.int .i64 x2)).setCell ⟨g, E * 5 + 3, none⟩ (.int .i64 x3)).setCell ⟨g, E * 5 + 4, none⟩ (.int .i64 x4)).drew) from
      ⟨((HS.out (y0, y1, y2, y3, y4)).stored (by simp [hlm]) E hEn (x0, x1, x2, x3, x4)).below (Below.refl _ _).drew (Nat.le_refl _), (boxB hgB (boxB hgB HN.out.2.2)).drew⟩)
    generalize ((((((((((wr.setCell ⟨g, k * 5, none⟩ (.int .i64 y0)).setCell ⟨g, k * 5 + 1, none⟩ (.int .i64 y1)).setCell ⟨g, k * 5 + 2, none⟩ (.int .i64 y2)).setCell ⟨g, k * 5 + 3, none⟩ (.int .i64 y3)).setCell ⟨g, k * 5 + 4, none⟩ (.int .i64 y4)).setCell ⟨g, E * 5, none⟩ (.int .i64 x0)).setCell ⟨g, E * 5 + 1, none⟩ (.int .i64 x1)).setCell ⟨g, E * 5 + 2, none⟩ (.int .i64 x2)).setCell ⟨g, E * 5 + 3, none⟩ (.int .i64 x3)).setCell ⟨g, E * 5 + 4, none⟩ (.int .i64 x4)).drew = W6 at *
    clear eD hD0 ec1 wD wu wC wE eE ct hlm HS hkE z
    go_wp2
    go_roundw
    case rel => exact ⟨k + 1, _, by omega, by go_num, HQ.out.1, HN.out.2.1.trans HP.out, HQ.out.2⟩
    case measure => simp [intOf] <;> omega
end Go.Proofs.Ytjedpemjifcciaa
