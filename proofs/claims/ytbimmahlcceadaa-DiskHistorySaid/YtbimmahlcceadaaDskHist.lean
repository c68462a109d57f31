/- DiskHistory (layer 4): under way. -/
import Derived.Test.YtbimmahlcceadaaDskSane
import Derived.Test.YtbimmahlcceadaaDskHistM
import Derived.Test.YtbimmahlcceadaaDskHApp
import Derived.Test.YtbimmahlcceadaaOpenSA
import Derived.Deep.CutRange
namespace Go.Proofs.Ytbimmahlcceadaa
open Go.ChangeShapes Go.WideShapes Go.ChangeAt Go.RowKit
def z4 : List Int := [0, 0, 0, 0]
/-- What holds between two acts. -/
def HInv (lo hi b5 bl bf bs : Nat) (v : Value) (r : Int) (k : Nat) (w : World) : Prop := ∃ (n g gc : Nat) (Wl : List At) (S : List Sl) (P : List Wr) (F G L : List Int) (sa : Option Addr) (sb so sc : Nat) (pa : Option Addr) (pb pc : Nat),
  v = .slice (some ⟨g, 0, none⟩) n gc ∧ hi ≤ g ∧ AsO w hi v Wl ∧ Wl.length = n ∧ n ≤ k ∧ w.heap[b5]? = some (.cells #[.slice sa 4 sc, .slice pa n pc, .int .i64 r, .bool false] 25 (0, 0)) ∧
  (w.heap[bl]? = some (.cells (bV L) 44 (0, 0)) ∧ w.heap[bf]? = some (.cells (bV F) 44 (0, 0)) ∧ w.heap[bs]? = some (.cells (bV G) 44 (0, 0)) ∧ L.length = 4 ∧ F.length = 4 ∧ G.length = 4) ∧
  (SecsF w lo hi sa sb so 4 S ∧ SecsF w g (g + 1) sa sb so 4 S ∧ PensF w lo hi pa pb 0 n P ∧ PensF w g (g + 1) pa pb 0 n P ∧ n ≤ pc ∧ (sa = none → sc = 0)) ∧
  PensH P Wl n ∧ (∀ i, i < 4 → (nS S i).2.2 = halfL (F.getD i 0) (G.getD i 0)) ∧ (∀ i : Nat, i < 4 → (rdK P (i : Int) (nS S i) n).2.2 = halfL (L.getD i 0) (L.getD i 0)) ∧ (∀ j, j < n → wfA (nthA Wl j)) ∧ 0 ≤ r ∧ r ≤ 255
theorem AsO.keep {w w' : World} {B : Nat} {v : Value} {l : List At} (h : AsO w B v l) (he : ∀ k, B ≤ k → w'.heap[k]? = w.heap[k]?) : AsO w' B v l := by
  refine ⟨h.1, ?_⟩
  rcases h.2 with h0 | ⟨g, cap, cur, h1, h2, h3, h4⟩
  · exact .inl h0
  · exact .inr ⟨g, cap, cur, h1, h2, (he g h2).trans h3, h4⟩
theorem HInv.below {lo hi b5 bl bf bs : Nat} {v : Value} {r : Int} {k : Nat} {w w' : World} (h : HInv lo hi b5 bl bf bs v r k w) (hb : Below w.heap.size w w') : HInv lo hi b5 bl bf bs v r k w' := by
  obtain ⟨n, g, gc, Wl, S, P, F, G, L, sa, sb, so, sc, pa, pb, pc, h1, h2, h3, h4, h5, h6, ⟨a1, a2, a3, a4⟩, ⟨s1, s2, s3, s4, s5⟩, h9⟩ := h
  exact ⟨n, g, gc, Wl, S, P, F, G, L, sa, sb, so, sc, pa, pb, pc, h1, h2, h3.below hb (Nat.le_refl _), h4, h5, blk_below h6 hb (blk_lt h6), ⟨blk_below a1 hb (blk_lt a1), blk_below a2 hb (blk_lt a2), blk_below a3 hb (blk_lt a3), a4⟩, ⟨s1.below hb (Nat.le_refl _), s2.below hb (Nat.le_refl _), s3.below hb (Nat.le_refl _), s4.below hb (Nat.le_refl _), s5⟩, h9⟩
set_option linter.unusedVariables false in
set_option maxRecDepth 100000 in
set_option maxHeartbeats 4000000 in
theorem diskHistory_walk (xa : Option Addr) (ab ao an ac : Nat) (l : List At) (left : Int) (w : World) (hA : As w xa an ab ao l) (hwf : ∀ i, i < an → wfA (nthA l i)) (han : an ≤ 9223372036854775807) (hlf : 0 ≤ left ∧ left ≤ 255) :
    Calls Try.prog 6 #[.slice xa an ac, .int .u8 left] w fun e w' => e = .returned (.bool true) ∧ Below w.heap.size w w' := by
  have HA := Lib.hid (show _ ∧ _ from ⟨hA, hwf⟩)
  clear hA hwf
  go_enter Try.func6, Try.ntmps6
  have HW := Lib.hid (Below.refl w.heap.size w)
  go_wp2_with fail
  refine (sane_any _).mono ?_
  rintro e W1 ⟨hp, hb⟩
  subst hp
  have H1 := Lib.hid (show _ from below_after HW.out hb HW.out.size)
  clear hb
  have hl0 : ((an : Nat) : Int) ≤ 9223372036854775807 := by omega
  by_cases hl : 40 < an
  · have c1 : (40 : Int) < ((an : Nat) : Int) := by omega
    go_wp2
    go_ret
    exact ⟨rfl, H1.out⟩
  have c1 : ¬ (40 : Int) < ((an : Nat) : Int) := by omega
  have han40 : an ≤ 40 := by omega
  clear hl hl0 han
  go_wp2_with fail
  refine (new_ok 4 _ (by omega) (by omega)).mono ?_
  rintro e W2 ⟨hp, hb⟩
  obtain ⟨b, L, rfl, hS, hz, hB, hG⟩ := hp
  have H2 := Lib.hid (show _ ∧ _ ∧ _ ∧ _ from ⟨below_after H1.out hb H1.out.size, hS, hz, hG⟩)
  clear hb
  clear hS hG hz
  go_upto_region 6 with fail
  have H3 := Lib.hid (show _ ∧ _ ∧ _ ∧ _ ∧ _ from ⟨below_after H2.out.1 ((Below.refl W2.heap.size W2).alloc (Nat.le_refl _) (.cells #[.slice (some ⟨b, 0, none⟩) 4 4, .slice none 0 0, .int .i64 (-1), .bool false] 25)) H2.out.1.size, H2.out.2.1.below ((Below.refl W2.heap.size W2).alloc (Nat.le_refl _) (.cells #[.slice (some ⟨b, 0, none⟩) 4 4, .slice none 0 0, .int .i64 (-1), .bool false] 25)) (Nat.le_refl _), H2.out.2.2.1, (fun i hi => (H2.out.2.2.2 i hi).below ((Below.refl W2.heap.size W2).alloc (Nat.le_refl _) (.cells #[.slice (some ⟨b, 0, none⟩) 4 4, .slice none 0 0, .int .i64 (-1), .bool false] 25)) (Nat.le_refl _)), blk_new W2 (.cells #[.slice (some ⟨b, 0, none⟩) 4 4, .slice none 0 0, .int .i64 (-1), .bool false] 25)⟩)
  have hzW3 : W2.heap.size < (W2.alloc (.cells #[.slice (some ⟨b, 0, none⟩) 4 4, .slice none 0 0, .int .i64 (-1), .bool false] 25)).heap.size := by simp
  have hpW3 := ((Below.refl W2.heap.size W2).alloc (Nat.le_refl _) (.cells #[.slice (some ⟨b, 0, none⟩) 4 4, .slice none 0 0, .int .i64 (-1), .bool false] 25))
  generalize W2.alloc (.cells #[.slice (some ⟨b, 0, none⟩) 4 4, .slice none 0 0, .int .i64 (-1), .bool false] 25) = W3 at *
  have u0 : IntKind.i64.wrap left = left := wrap_id (by omega)
  have HR0 := Lib.hid (show ∀ lf : Int, -1 ≤ lf → lf ≤ 65536 → runB ⟨L, [], lf, false⟩ = true from fun lf h1 h2 => run_of (by have := H3.out.2.1.len; omega) (by have := H3.out.2.1.len; omega) (by simp) h1 h2 (fun i hi => by rw [H3.out.2.2.1 i (by have := H3.out.2.1.len; omega), z128_len]) (fun i hi => by simp at hi))
  have xd0 := blk_cell H3.out.2.2.2.2 0
  have xd1 := blk_cell H3.out.2.2.2.2 1
  have xd2 := blk_cell H3.out.2.2.2.2 2
  have xd3 := blk_cell H3.out.2.2.2.2 3
  go_wp2_with fail
  clear xd0 xd1 xd2 xd3
  refine (stop_ok L [] (-1) (some ⟨b, 0, none⟩) b 0 4 4 none 0 0 0 0 left _ H3.out.2.1 (pens_nil _ _) (by omega) (by omega) (HR0.out _ (by omega) (by omega)) (by omega) (by omega)).mono ?_
  rintro e W4 ⟨hp, hb⟩
  subst hp
  have hstp := hb
  have H4 := Lib.hid (show _ ∧ _ ∧ _ ∧ _ ∧ _ from ⟨below_after H3.out.1 hb H3.out.1.size, H3.out.2.1.below hb (Nat.le_refl _), H3.out.2.2.1, (fun i hi => (H3.out.2.2.2.1 i hi).below hb (Nat.le_refl _)), blk_below H3.out.2.2.2.2 hb (blk_lt H3.out.2.2.2.2)⟩)
  clear hb
  have xd0 := blk_cell H4.out.2.2.2.2 0
  have fd0 := blk_free H4.out.2.2.2.2 0
  have xd1 := blk_cell H4.out.2.2.2.2 1
  have fd1 := blk_free H4.out.2.2.2.2 1
  have xd2 := blk_cell H4.out.2.2.2.2 2
  have fd2 := blk_free H4.out.2.2.2.2 2
  have xd3 := blk_cell H4.out.2.2.2.2 3
  have fd3 := blk_free H4.out.2.2.2.2 3
  go_upto_region 9 with fail
  have hlp := cell4_below (u0 := (.slice (some ⟨b, 0, none⟩) 4 4)) (u1 := (.slice none 0 0)) (u2 := (.int .i64 left)) (u3 := (.bool false)) (Nat.le_refl _) (hpW3.trans (hstp.mono hpW3.size))
  have HS := Lib.hid (show Below w.heap.size w ((((W4.setCell ⟨W2.heap.size, 0, none⟩ (.slice (some ⟨b, 0, none⟩) 4 4)).setCell ⟨W2.heap.size, 1, none⟩ (.slice none 0 0)).setCell ⟨W2.heap.size, 2, none⟩ (.int .i64 left)).setCell ⟨W2.heap.size, 3, none⟩ (.bool false)) ∧ ((((W4.setCell ⟨W2.heap.size, 0, none⟩ (.slice (some ⟨b, 0, none⟩) 4 4)).setCell ⟨W2.heap.size, 1, none⟩ (.slice none 0 0)).setCell ⟨W2.heap.size, 2, none⟩ (.int .i64 left)).setCell ⟨W2.heap.size, 3, none⟩ (.bool false)).heap[W2.heap.size]? = some (.cells #[.slice (some ⟨b, 0, none⟩) 4 4, .slice none 0 0, .int .i64 left, .bool false] 25 (0, 0)) ∧ Below W2.heap.size W2 ((((W4.setCell ⟨W2.heap.size, 0, none⟩ (.slice (some ⟨b, 0, none⟩) 4 4)).setCell ⟨W2.heap.size, 1, none⟩ (.slice none 0 0)).setCell ⟨W2.heap.size, 2, none⟩ (.int .i64 left)).setCell ⟨W2.heap.size, 3, none⟩ (.bool false)) from ⟨cell4_below (u0 := (.slice (some ⟨b, 0, none⟩) 4 4)) (u1 := (.slice none 0 0)) (u2 := (.int .i64 left)) (u3 := (.bool false)) H2.out.1.size H4.out.1, cell4_set (u0 := (.slice (some ⟨b, 0, none⟩) 4 4)) (u1 := (.slice none 0 0)) (u2 := (.int .i64 left)) (u3 := (.bool false)) H4.out.2.2.2.2, hlp⟩)
  clear xd0 fd0 xd1 fd1 xd2 fd2 xd3 fd3
  clear hlp hstp
  generalize ((((W4.setCell ⟨W2.heap.size, 0, none⟩ (.slice (some ⟨b, 0, none⟩) 4 4)).setCell ⟨W2.heap.size, 1, none⟩ (.slice none 0 0)).setCell ⟨W2.heap.size, 2, none⟩ (.int .i64 left)).setCell ⟨W2.heap.size, 3, none⟩ (.bool false)) = W6 at *
  go_upto_region 12 with fail
  have hs6 := HS.out.1.size
  have hs7 := HS.out.2.2.size
  have h5lt := blk_lt HS.out.2.1
  have eA3 : (((W6.alloc (.cells #[.int .u8 0, .int .u8 0, .int .u8 0, .int .u8 0] 44)).alloc (.cells #[.int .u8 0, .int .u8 0, .int .u8 0, .int .u8 0] 44)).alloc (.cells #[.int .u8 0, .int .u8 0, .int .u8 0, .int .u8 0] 44)).heap.size = (W6.heap.size + 1 + 1 + 1) := by simp
  have hAs0 := AsO.empty (((W6.alloc (.cells #[.int .u8 0, .int .u8 0, .int .u8 0, .int .u8 0] 44)).alloc (.cells #[.int .u8 0, .int .u8 0, .int .u8 0, .int .u8 0] 44)).alloc (.cells #[.int .u8 0, .int .u8 0, .int .u8 0, .int .u8 0] 44))
  rw [eA3] at hAs0
  clear eA3
  have HW7 := Lib.hid (show Below w.heap.size w ((((W6.alloc (.cells #[.int .u8 0, .int .u8 0, .int .u8 0, .int .u8 0] 44)).alloc (.cells #[.int .u8 0, .int .u8 0, .int .u8 0, .int .u8 0] 44)).alloc (.cells #[.int .u8 0, .int .u8 0, .int .u8 0, .int .u8 0] 44)).alloc (.cells #[] 46)) ∧ Below W2.heap.size W2 ((((W6.alloc (.cells #[.int .u8 0, .int .u8 0, .int .u8 0, .int .u8 0] 44)).alloc (.cells #[.int .u8 0, .int .u8 0, .int .u8 0, .int .u8 0] 44)).alloc (.cells #[.int .u8 0, .int .u8 0, .int .u8 0, .int .u8 0] 44)).alloc (.cells #[] 46)) ∧ ((((W6.alloc (.cells #[.int .u8 0, .int .u8 0, .int .u8 0, .int .u8 0] 44)).alloc (.cells #[.int .u8 0, .int .u8 0, .int .u8 0, .int .u8 0] 44)).alloc (.cells #[.int .u8 0, .int .u8 0, .int .u8 0, .int .u8 0] 44)).alloc (.cells #[] 46)).heap[W2.heap.size]? = some (.cells #[.slice (some ⟨b, 0, none⟩) 4 4, .slice none 0 0, .int .i64 left, .bool false] 25 (0, 0)) ∧ ((((W6.alloc (.cells #[.int .u8 0, .int .u8 0, .int .u8 0, .int .u8 0] 44)).alloc (.cells #[.int .u8 0, .int .u8 0, .int .u8 0, .int .u8 0] 44)).alloc (.cells #[.int .u8 0, .int .u8 0, .int .u8 0, .int .u8 0] 44)).alloc (.cells #[] 46)).heap[W6.heap.size]? = some (.cells (bV z4) 44 (0, 0)) ∧ ((((W6.alloc (.cells #[.int .u8 0, .int .u8 0, .int .u8 0, .int .u8 0] 44)).alloc (.cells #[.int .u8 0, .int .u8 0, .int .u8 0, .int .u8 0] 44)).alloc (.cells #[.int .u8 0, .int .u8 0, .int .u8 0, .int .u8 0] 44)).alloc (.cells #[] 46)).heap[(W6.heap.size + 1)]? = some (.cells (bV z4) 44 (0, 0)) ∧ ((((W6.alloc (.cells #[.int .u8 0, .int .u8 0, .int .u8 0, .int .u8 0] 44)).alloc (.cells #[.int .u8 0, .int .u8 0, .int .u8 0, .int .u8 0] 44)).alloc (.cells #[.int .u8 0, .int .u8 0, .int .u8 0, .int .u8 0] 44)).alloc (.cells #[] 46)).heap[(W6.heap.size + 1 + 1)]? = some (.cells (bV z4) 44 (0, 0)) ∧ AsO ((((W6.alloc (.cells #[.int .u8 0, .int .u8 0, .int .u8 0, .int .u8 0] 44)).alloc (.cells #[.int .u8 0, .int .u8 0, .int .u8 0, .int .u8 0] 44)).alloc (.cells #[.int .u8 0, .int .u8 0, .int .u8 0, .int .u8 0] 44)).alloc (.cells #[] 46)) (W6.heap.size + 1 + 1 + 1) (.slice (some ⟨(W6.heap.size + 1 + 1 + 1), 0, none⟩) 0 0) [] from ⟨(((HS.out.1.alloc hs6 (.cells #[.int .u8 0, .int .u8 0, .int .u8 0, .int .u8 0] 44)).alloc (by simp; omega) (.cells #[.int .u8 0, .int .u8 0, .int .u8 0, .int .u8 0] 44)).alloc (by simp; omega) (.cells #[.int .u8 0, .int .u8 0, .int .u8 0, .int .u8 0] 44)).alloc (by simp; omega) (.cells #[] 46), (((HS.out.2.2.alloc hs7 (.cells #[.int .u8 0, .int .u8 0, .int .u8 0, .int .u8 0] 44)).alloc (by simp; omega) (.cells #[.int .u8 0, .int .u8 0, .int .u8 0, .int .u8 0] 44)).alloc (by simp; omega) (.cells #[.int .u8 0, .int .u8 0, .int .u8 0, .int .u8 0] 44)).alloc (by simp; omega) (.cells #[] 46), blk_alloc (blk_alloc (blk_alloc (blk_alloc (HS.out.2.1) (.cells #[.int .u8 0, .int .u8 0, .int .u8 0, .int .u8 0] 44)) (.cells #[.int .u8 0, .int .u8 0, .int .u8 0, .int .u8 0] 44)) (.cells #[.int .u8 0, .int .u8 0, .int .u8 0, .int .u8 0] 44)) (.cells #[] 46), blk_alloc (blk_alloc (blk_alloc (blk_new W6 (.cells #[.int .u8 0, .int .u8 0, .int .u8 0, .int .u8 0] 44)) (.cells #[.int .u8 0, .int .u8 0, .int .u8 0, .int .u8 0] 44)) (.cells #[.int .u8 0, .int .u8 0, .int .u8 0, .int .u8 0] 44)) (.cells #[] 46), blk_alloc (blk_alloc (blkZ (W := (W6.alloc (.cells #[.int .u8 0, .int .u8 0, .int .u8 0, .int .u8 0] 44))) (o := (.cells #[.int .u8 0, .int .u8 0, .int .u8 0, .int .u8 0] 44)) (k := (W6.heap.size + 1)) (by simp)) (.cells #[.int .u8 0, .int .u8 0, .int .u8 0, .int .u8 0] 44)) (.cells #[] 46), blk_alloc (blkZ (W := ((W6.alloc (.cells #[.int .u8 0, .int .u8 0, .int .u8 0, .int .u8 0] 44)).alloc (.cells #[.int .u8 0, .int .u8 0, .int .u8 0, .int .u8 0] 44))) (o := (.cells #[.int .u8 0, .int .u8 0, .int .u8 0, .int .u8 0] 44)) (k := (W6.heap.size + 1 + 1)) (by simp)) (.cells #[] 46), hAs0⟩)
  have hz7 : ((((W6.alloc (.cells #[.int .u8 0, .int .u8 0, .int .u8 0, .int .u8 0] 44)).alloc (.cells #[.int .u8 0, .int .u8 0, .int .u8 0, .int .u8 0] 44)).alloc (.cells #[.int .u8 0, .int .u8 0, .int .u8 0, .int .u8 0] 44)).alloc (.cells #[] 46)).heap.size = (W6.heap.size + 1 + 1 + 1) + 1 := by simp
  generalize ((((W6.alloc (.cells #[.int .u8 0, .int .u8 0, .int .u8 0, .int .u8 0] 44)).alloc (.cells #[.int .u8 0, .int .u8 0, .int .u8 0, .int .u8 0] 44)).alloc (.cells #[.int .u8 0, .int .u8 0, .int .u8 0, .int .u8 0] 44)).alloc (.cells #[] 46)) = W7 at *
  have HIv : Hid (HInv W2.heap.size (W6.heap.size + 1 + 1 + 1) W2.heap.size W6.heap.size (W6.heap.size + 1) (W6.heap.size + 1 + 1) (.slice (some ⟨(W6.heap.size + 1 + 1 + 1), 0, none⟩) 0 0) left 0 W7) := Lib.hid ⟨0, (W6.heap.size + 1 + 1 + 1), 0, [], L, [], z4, z4, z4, some ⟨b, 0, none⟩, b, 0, 4, none, 0, 0, rfl, Nat.le_refl _, HW7.out.2.2.2.2.2.2, rfl, Nat.zero_le _, HW7.out.2.2.1, ⟨HW7.out.2.2.2.1, HW7.out.2.2.2.2.1, HW7.out.2.2.2.2.2.1, rfl, rfl, rfl⟩, ⟨H2.out.2.1.f HW7.out.2.1 (Nat.le_refl _), H2.out.2.1.f HW7.out.2.1 (by omega), pensF_nil _ _ _ _, pensF_nil _ _ _ _, Nat.le_refl _, fun h => (by cases h)⟩, ⟨rfl, fun j hj => by omega⟩, fun i hi => by rw [H2.out.2.2.1 i hi, ← half_z]; rcases i with _ | _ | _ | _ | i <;> first | rfl | omega, fun i hi => by show (nS L i).2.2 = _; rw [H2.out.2.2.1 i hi, ← half_z]; rcases i with _ | _ | _ | _ | i <;> first | rfl | omega, fun j hj => by omega, hlf.1, hlf.2⟩
  have HLw := Lib.hid (show Below w.heap.size w W7 ∧ (W6.heap.size + 1 + 1 + 1) < W7.heap.size from ⟨HW7.out.1, by omega⟩)
  have HWp := Lib.hid (show w.heap.size ≤ W2.heap.size ∧ W2.heap.size < W6.heap.size from ⟨H2.out.1.size, h5lt⟩)
  clear HW7 hz7 hs6 hs7 h5lt
  go_wp2_with fail
  go_loopw [11, 12, 13] (fun v rv iv wr => ∃ (k : Nat) (r : Int), k ≤ an ∧ iv = .int .i64 k ∧ rv = .int .i64 r ∧ Hid (Below w.heap.size w wr ∧ (W6.heap.size + 1 + 1 + 1) < wr.heap.size) ∧ Hid (HInv W2.heap.size (W6.heap.size + 1 + 1 + 1) W2.heap.size W6.heap.size (W6.heap.size + 1) (W6.heap.size + 1 + 1) v r k wr)) (fun _ _ iv _ => an - (intOf iv).toNat)
  case atStart => exact ⟨0, left, Nat.zero_le _, rfl, rfl, HLw, HIv⟩
  case round =>
    obtain ⟨k, r, hk, rfl, rfl, HB, HV⟩ := hrel
    by_cases hka : k < an
    · have j1 : (k : Int) < (an : Int) := by omega
      have j2 : ¬ (k : Int) < 0 := by omega
      have u1 : IntKind.i64.wrap ((k : Int) + 1) = ((k + 1 : Nat) : Int) := (wrap_id (by omega)).trans (by omega)
      have hAs := HA.out.1.grown (w' := wr) (HB.out.1)
      obtain ⟨rfl, hab⟩ := hAs.2.1 (by omega)
      obtain ⟨a0, a1, a2⟩ := hAs.2.2 k hka
      have hwf := HA.out.2 k hka
      obtain ⟨X, hX⟩ : ∃ X, X = nthA l k := ⟨_, rfl⟩
      rw [← hX] at a0 a1 a2 hwf
      obtain ⟨sy, at1, by1⟩ := X
      dsimp only at a0 a1 a2
      clear hAs hX
      go_upto_region 16 with fail
      have hba := (Below.refl wr.heap.size wr).alloc (Nat.le_refl _) (.cells #[.bool sy, .int .u8 at1, .int .u8 by1] 46)
      have HBq := Lib.hid (show Below w.heap.size w (wr.alloc (.cells #[.bool sy, .int .u8 at1, .int .u8 by1] 46)) ∧ (W6.heap.size + 1 + 1 + 1) < (wr.alloc (.cells #[.bool sy, .int .u8 at1, .int .u8 by1] 46)).heap.size ∧ wr.heap.size < (wr.alloc (.cells #[.bool sy, .int .u8 at1, .int .u8 by1] 46)).heap.size ∧ (wr.alloc (.cells #[.bool sy, .int .u8 at1, .int .u8 by1] 46)).heap[wr.heap.size]? = some (.cells #[.bool sy, .int .u8 at1, .int .u8 by1] 46 (0, 0)) ∧ (W6.heap.size + 1 + 1 + 1) < wr.heap.size from ⟨below_after HB.out.1 hba HB.out.1.size, by have := HB.out.2; simp; omega, by simp, blk_new wr (.cells #[.bool sy, .int .u8 at1, .int .u8 by1] 46), HB.out.2⟩)
      have HVq := Lib.hid (HV.out.below hba)
      obtain ⟨qs, hqs⟩ : ∃ qs, qs = wr.heap.size := ⟨_, rfl⟩
      rw [← hqs] at HBq ⊢
      clear hba HB HV a0 a1 a2 hqs
      generalize wr.alloc (.cells #[.bool sy, .int .u8 at1, .int .u8 by1] 46) = wq at *
      obtain ⟨n, g, gc, Wl, S, P, F, G, L1, sa, sb, so, sc, pa, pb, pc, rfl, hg, hAO, hWl, hnk, hd5, hAr, hSP, hPH, hS, hR, hwfW, hr0, hr1⟩ := HVq.out
      have HD := Lib.hid (show _ ∧ _ ∧ _ ∧ _ ∧ _ ∧ _ from ⟨hg, hAO, hWl, hnk, hd5, hAr⟩)
      have HE := Lib.hid (show _ ∧ _ ∧ _ ∧ _ ∧ _ ∧ _ ∧ _ from ⟨hSP, hPH, hS, hR, hwfW, hr0, hr1⟩)
      have HVd := Lib.hid (valid_h (lf := r) hSP.1.s.len hS hPH (by omega) (by omega) (by omega))
      clear hg hAO hWl hnk hd5 hAr hSP hPH hS hR hwfW HVq
      have q0 := blk_cell HBq.out.2.2.2.1 0
      cases sy
      case false =>
        obtain ⟨tt, htt⟩ : ∃ tt, tt = (at1 % 4).toNat := ⟨_, rfl⟩
        have htl : tt < 4 := by omega
        have hti : at1 % 4 = (tt : Int) := by omega
        have m1 : at1.tmod 4 = (tt : Int) := by rw [Int.tmod_eq_emod_of_nonneg hwf.1.1]; exact hti
        have u2 : IntKind.u8.wrap (tt : Int) = (tt : Int) := by rw [IntKind.wrap_u8]; omega
        have u3 : IntKind.i64.wrap (tt : Int) = (tt : Int) := wrap_id (by omega)
        have HTT := Lib.hid htt
        clear htt
        go_upto_region 17 with fail
        clear q0
        have hgw : g < wq.heap.size := by
          rcases HD.out.2.1.2 with ⟨h, _⟩ | ⟨g', _, _, h1, _, h3, _⟩
          · cases h
          · cases h1; exact blk_lt h3
        go_cut [15, 16] from 59 to 71 (fun p v wx => v = .int .i64 0 ∧ ∃ (bz : Nat) (qa : Option Addr) (qb qc : Nat) (Y : Sl), p = .pointer (some ⟨bz, 0, none⟩) ∧ Y.2.2 = dblL by1 ∧ n + 1 ≤ qc ∧ Hid (wx.heap[bz]? = some (.cells #[.slice sa 4 sc, .slice qa (n + 1) qc, .int .i64 r, .bool false] 25 (0, 0)) ∧ Below wq.heap.size wq wx ∧ PensF wx W2.heap.size (W6.heap.size + 1 + 1 + 1) qa qb 0 (n + 1) (P ++ [((tt : Int), Y)]) ∧ PensF wx g (g + 1) qa qb 0 (n + 1) (P ++ [((tt : Int), Y)])))
        case first =>
          refine wp_region_from 0 7 (fun w' => w'.heap[W2.heap.size]? = some (.cells #[.slice sa 4 sc, .slice pa n pc, .int .i64 r, .bool false] 25 (0, 0)) ∧ w'.heap[qs]? = some (.cells #[.bool false, .int .u8 at1, .int .u8 by1] 46 (0, 0))) (by kernel_rfl) (by kernel_rfl) (by decide) (by kernel_rfl) (⟨blk_below HD.out.2.2.2.2.1 ((Below.refl wq.heap.size wq).drew) (blk_lt HD.out.2.2.2.2.1), blk_below HBq.out.2.2.2.1 ((Below.refl wq.heap.size wq).drew) (blk_lt HBq.out.2.2.2.1)⟩) ?_
          simp only [List.drop_zero, List.take_succ_cons, List.take_zero]
          refine wpHeld_cons (.agg #[.slice sa 4 sc, .slice pa n pc, .int .i64 r, .bool false]) (by kernel_rfl) ?_ ?_
          · rintro w' ⟨s1, s2⟩
            have y0 := blk_cell s1 0
            simp at y0
            have y1 := blk_cell s1 1
            simp at y1
            have y2 := blk_cell s1 2
            simp at y2
            have y3 := blk_cell s1 3
            simp at y3
            try go_simp
          refine wpHeld_cons (.pointer (some ⟨qs, 1, none⟩)) (by kernel_rfl) ?_ ?_
          · rintro w' ⟨s1, s2⟩
            try go_simp
          refine wpHeld_cons (.int .u8 at1) (by kernel_rfl) ?_ ?_
          · rintro w' ⟨s1, s2⟩
            have y0 := blk_cell s2 0
            simp at y0
            have y1 := blk_cell s2 1
            simp at y1
            have y2 := blk_cell s2 2
            simp at y2
            try go_simp
          refine wpHeld_cons (.int .u8 (tt : Int)) (by kernel_rfl) ?_ ?_
          · rintro w' ⟨s1, s2⟩
            try go_simp
          refine wpHeld_cons (.int .i64 (tt : Int)) (by kernel_rfl) ?_ ?_
          · rintro w' ⟨s1, s2⟩
            try go_simp
          refine wpHeld_cons (.pointer (some ⟨qs, 2, none⟩)) (by kernel_rfl) ?_ ?_
          · rintro w' ⟨s1, s2⟩
            try go_simp
          refine wpHeld_cons (.int .u8 by1) (by kernel_rfl) ?_ ?_
          · rintro w' ⟨s1, s2⟩
            have y0 := blk_cell s2 0
            simp at y0
            have y1 := blk_cell s2 1
            simp at y1
            have y2 := blk_cell s2 2
            simp at y2
            try go_simp
          refine wpHeld_nil ?_
          go_simp
          refine wpAnyH_two (i := 7) (j := 12) (by kernel_rfl) rfl rfl (by kernel_rfl) (by kernel_rfl) (fun K' hK' => ?_) (fun K' hK' => ?_)
          · go_simp
            refine (double_any by1 _).mono ?_
            rintro e V1 ⟨⟨X, rfl, hX, hXr⟩, hb⟩
            have HXX := Lib.hid hX
            clear hX
            unfold slV
            have K1 := Lib.hid (show Below wq.heap.size wq V1 ∧ SlR V1 X ∧ _ from ⟨below_after ((Below.refl wq.heap.size wq).drew) hb ((Below.refl wq.heap.size wq).drew).size, hXr, trivial⟩)
            clear hb hXr
            refine hK' _ _ (⟨blk_below HD.out.2.2.2.2.1 K1.out.1 (blk_lt HD.out.2.2.2.2.1), blk_below HBq.out.2.2.2.1 K1.out.1 (blk_lt HBq.out.2.2.2.1)⟩) ?_
            clear hK' K'
            go_simp
            refine wpAnyH_two (i := 8) (j := 12) (by kernel_rfl) rfl rfl (by kernel_rfl) (by kernel_rfl) (fun K' hK' => ?_) (fun K' hK' => ?_)
            · go_simp
              refine (write_ok S P r sa sb so 4 sc pa pb 0 n pc (tt : Int) X (n + 1) _ (HE.out.1.1.s.below K1.out.1 (Nat.le_refl _)) (HE.out.1.2.2.1.s.below K1.out.1 (Nat.le_refl _)) K1.out.2.1 (by omega) HE.out.1.2.2.2.2.1 (runB_t HVd.out rfl) (by omega) (by omega) (by rw [HXX.out, dblL_len]; omega) (by have := HD.out.2.2.2.1; omega) rfl).mono ?_
              rintro e V2 ⟨hp, hb⟩
              obtain ⟨qa, qb, qc, Y, hY, hqc, hqB, hYg, hP1, rfl⟩ := hp
              have hsz : (W6.heap.size + 1 + 1 + 1) ≤ V1.heap.size := by have := K1.out.1.size; have := HBq.out.2.1; omega
              have hszg : g + 1 ≤ V1.heap.size := by have := K1.out.1.size; have := hgw; omega
              have K2 := Lib.hid (show Below wq.heap.size wq V2 ∧ PensF V2 W2.heap.size (W6.heap.size + 1 + 1 + 1) qa qb 0 (n + 1) (P ++ [((tt : Int), Y)]) ∧ PensF V2 g (g + 1) qa qb 0 (n + 1) (P ++ [((tt : Int), Y)]) from ⟨below_after K1.out.1 hb K1.out.1.size, (HE.out.1.2.2.1.below K1.out.1 (Nat.le_refl _)).snoc hb hsz hqB hYg hP1, (HE.out.1.2.2.2.1.below K1.out.1 (Nat.le_refl _)).snoc hb hszg hqB hYg hP1⟩)
              have HYY := Lib.hid (show Y.2.2 = dblL by1 ∧ _ from ⟨by rw [hY, HXX.out]; unfold padL; rw [dblL_len]; simp, hqc⟩)
              clear hb hY hqc hqB hYg hP1 hsz hszg
              refine hK' _ _ (⟨blk_below HD.out.2.2.2.2.1 K2.out.1 (blk_lt HD.out.2.2.2.2.1), blk_below HBq.out.2.2.2.1 K2.out.1 (blk_lt HBq.out.2.2.2.1)⟩) ?_
              clear hK' K'
              go_simp
              refine wpAnyH_from (fuel := 3) 9 3 (fun _ _ _ _ _ h => h) (by kernel_rfl) (by decide) (by kernel_rfl) (⟨blk_below HD.out.2.2.2.2.1 K2.out.1 (blk_lt HD.out.2.2.2.2.1), blk_below HBq.out.2.2.2.1 K2.out.1 (blk_lt HBq.out.2.2.2.1)⟩) ?_
              simp only [List.drop_succ_cons, List.drop_zero, List.take_succ_cons, List.take_zero]
              refine wpHeld_cons (.tuple #[.agg #[.slice sa 4 sc, .slice qa (n + 1) qc, .int .i64 r, .bool false], .int .i64 0]) (by kernel_rfl) ?_ ?_
              · intro w' s
                try go_simp
              refine wpHeld_cons (.agg #[.slice sa 4 sc, .slice qa (n + 1) qc, .int .i64 r, .bool false]) (by kernel_rfl) ?_ ?_
              · intro w' s
                try go_simp
              refine wpHeld_cons (.int .i64 0) (by kernel_rfl) ?_ ?_
              · intro w' s
                try go_simp
              refine wpHeld_nil ?_
              go_simp
              refine wpAnyH_one (i := 12) (by kernel_rfl) rfl (by kernel_rfl) (fun K' hK' => ?_)
              go_simp
              have K3 := Lib.hid (show Below wq.heap.size wq (V2.alloc (.cells #[.slice none 0 0, .slice none 0 0, .int .i64 0, .bool false] 25)) ∧ wq.heap.size ≤ V2.heap.size ∧ _ ∧ True ∧ PensF (V2.alloc (.cells #[.slice none 0 0, .slice none 0 0, .int .i64 0, .bool false] 25)) W2.heap.size (W6.heap.size + 1 + 1 + 1) qa qb 0 (n + 1) (P ++ [((tt : Int), Y)]) ∧ PensF (V2.alloc (.cells #[.slice none 0 0, .slice none 0 0, .int .i64 0, .bool false] 25)) g (g + 1) qa qb 0 (n + 1) (P ++ [((tt : Int), Y)]) ∧ PensF (V2.alloc (.cells #[.slice none 0 0, .slice none 0 0, .int .i64 0, .bool false] 25)) V2.heap.size (V2.heap.size + 1) qa qb 0 (n + 1) (P ++ [((tt : Int), Y)]) from ⟨K2.out.1.alloc K2.out.1.size (.cells #[.slice none 0 0, .slice none 0 0, .int .i64 0, .bool false] 25), K2.out.1.size, blk_new V2 (.cells #[.slice none 0 0, .slice none 0 0, .int .i64 0, .bool false] 25), trivial, K2.out.2.1.below ((Below.refl V2.heap.size V2).alloc (Nat.le_refl _) (.cells #[.slice none 0 0, .slice none 0 0, .int .i64 0, .bool false] 25)) (Nat.le_refl _), K2.out.2.2.below ((Below.refl V2.heap.size V2).alloc (Nat.le_refl _) (.cells #[.slice none 0 0, .slice none 0 0, .int .i64 0, .bool false] 25)) (Nat.le_refl _), K2.out.2.1.s.f ((Below.refl V2.heap.size V2).alloc (Nat.le_refl _) (.cells #[.slice none 0 0, .slice none 0 0, .int .i64 0, .bool false] 25)) (Nat.le_refl _) (hi := V2.heap.size + 1)⟩)
              generalize (V2.alloc (.cells #[.slice none 0 0, .slice none 0 0, .int .i64 0, .bool false] 25)) = V3 at *
              refine hK' _ _ (⟨blk_below HD.out.2.2.2.2.1 K3.out.1 (blk_lt HD.out.2.2.2.2.1), blk_below HBq.out.2.2.2.1 K3.out.1 (blk_lt HBq.out.2.2.2.1)⟩) ?_
              clear hK' K'
              go_simp
              refine wpAnyH_one (i := 13) (by kernel_rfl) rfl (by kernel_rfl) (fun K' hK' => ?_)
              have z0 := blk_cell K3.out.2.2.1 0
              have f0 := blk_free K3.out.2.2.1 0
              have z1 := blk_cell K3.out.2.2.1 1
              have f1 := blk_free K3.out.2.2.1 1
              have z2 := blk_cell K3.out.2.2.1 2
              have f2 := blk_free K3.out.2.2.1 2
              have z3 := blk_cell K3.out.2.2.1 3
              have f3 := blk_free K3.out.2.2.1 3
              go_simp
              have hbF := cell4_below (u0 := (.slice sa 4 sc)) (u1 := (.slice qa (n + 1) qc)) (u2 := (.int .i64 r)) (u3 := (.bool false)) K3.out.2.1 K3.out.1
              have HF := Lib.hid (show ((((V3.setCell ⟨V2.heap.size, 0, none⟩ (.slice sa 4 sc)).setCell ⟨V2.heap.size, 1, none⟩ (.slice qa (n + 1) qc)).setCell ⟨V2.heap.size, 2, none⟩ (.int .i64 r)).setCell ⟨V2.heap.size, 3, none⟩ (.bool false)).heap[V2.heap.size]? = some (.cells #[.slice sa 4 sc, .slice qa (n + 1) qc, .int .i64 r, .bool false] 25 (0, 0)) ∧ Below wq.heap.size wq ((((V3.setCell ⟨V2.heap.size, 0, none⟩ (.slice sa 4 sc)).setCell ⟨V2.heap.size, 1, none⟩ (.slice qa (n + 1) qc)).setCell ⟨V2.heap.size, 2, none⟩ (.int .i64 r)).setCell ⟨V2.heap.size, 3, none⟩ (.bool false)) ∧ PensF ((((V3.setCell ⟨V2.heap.size, 0, none⟩ (.slice sa 4 sc)).setCell ⟨V2.heap.size, 1, none⟩ (.slice qa (n + 1) qc)).setCell ⟨V2.heap.size, 2, none⟩ (.int .i64 r)).setCell ⟨V2.heap.size, 3, none⟩ (.bool false)) W2.heap.size (W6.heap.size + 1 + 1 + 1) qa qb 0 (n + 1) (P ++ [((tt : Int), Y)]) ∧ PensF ((((V3.setCell ⟨V2.heap.size, 0, none⟩ (.slice sa 4 sc)).setCell ⟨V2.heap.size, 1, none⟩ (.slice qa (n + 1) qc)).setCell ⟨V2.heap.size, 2, none⟩ (.int .i64 r)).setCell ⟨V2.heap.size, 3, none⟩ (.bool false)) g (g + 1) qa qb 0 (n + 1) (P ++ [((tt : Int), Y)]) from ⟨cell4_set (u0 := (.slice sa 4 sc)) (u1 := (.slice qa (n + 1) qc)) (u2 := (.int .i64 r)) (u3 := (.bool false)) K3.out.2.2.1, hbF, K3.out.2.2.2.2.1.upd2 K3.out.2.2.2.2.2.2 (UpdR.set4 (c := V2.heap.size) (u0 := (.slice sa 4 sc)) (u1 := (.slice qa (n + 1) qc)) (u2 := (.int .i64 r)) (u3 := (.bool false)) (Nat.le_refl _) (Nat.lt_succ_self _)), K3.out.2.2.2.2.2.1.upd2 K3.out.2.2.2.2.2.2 (UpdR.set4 (c := V2.heap.size) (u0 := (.slice sa 4 sc)) (u1 := (.slice qa (n + 1) qc)) (u2 := (.int .i64 r)) (u3 := (.bool false)) (Nat.le_refl _) (Nat.lt_succ_self _))⟩)
              clear z0 z1 z2 z3 f0 f1 f2 f3
              refine hK' _ _ (⟨blk_below HD.out.2.2.2.2.1 hbF (blk_lt HD.out.2.2.2.2.1), blk_below HBq.out.2.2.2.1 hbF (blk_lt HBq.out.2.2.2.1)⟩) ?_
              clear hK' K'
              go_simp
              refine wpAnyH_from (fuel := 0) 14 1 (fun _ _ _ _ _ h => h) (by kernel_rfl) (by decide) (by kernel_rfl) (⟨blk_below HD.out.2.2.2.2.1 hbF (blk_lt HD.out.2.2.2.2.1), blk_below HBq.out.2.2.2.1 hbF (blk_lt HBq.out.2.2.2.1)⟩) ?_
              simp only [List.drop_succ_cons, List.drop_zero, List.take_succ_cons, List.take_zero]
              refine wpHeld_cons (.int .i64 0) (by kernel_rfl) ?_ ?_
              · intro w' s
                try go_simp
              refine wpHeld_nil ?_
              go_simp
              refine wpAnyH_done (by kernel_rfl) ?_ _
              refine NoPanic.normal ?_
              go_simp
              go_wp2_with fail
              go_meet
              case rel => exact ⟨rfl, V2.heap.size, qa, qb, qc, Y, rfl, HYY.out.1, HYY.out.2, HF⟩
            · go_simp
              have K4 := Lib.hid (show Below wq.heap.size wq (V1.alloc (.cells #[.slice none 0 0, .slice none 0 0, .int .i64 0, .bool false] 25)) ∧ wq.heap.size ≤ V1.heap.size ∧ _ ∧ SlR (V1.alloc (.cells #[.slice none 0 0, .slice none 0 0, .int .i64 0, .bool false] 25)) X from ⟨K1.out.1.alloc K1.out.1.size (.cells #[.slice none 0 0, .slice none 0 0, .int .i64 0, .bool false] 25), K1.out.1.size, blk_new V1 (.cells #[.slice none 0 0, .slice none 0 0, .int .i64 0, .bool false] 25), K1.out.2.1.below ((Below.refl V1.heap.size V1).alloc (Nat.le_refl _) (.cells #[.slice none 0 0, .slice none 0 0, .int .i64 0, .bool false] 25)) (Nat.le_refl _)⟩)
              generalize (V1.alloc (.cells #[.slice none 0 0, .slice none 0 0, .int .i64 0, .bool false] 25)) = V4 at *
              refine hK' _ _ (⟨blk_below HD.out.2.2.2.2.1 K4.out.1 (blk_lt HD.out.2.2.2.2.1), blk_below HBq.out.2.2.2.1 K4.out.1 (blk_lt HBq.out.2.2.2.1)⟩) ?_
              clear hK' K'
              go_simp
              refine wpAnyH_one (i := 8) (by kernel_rfl) rfl (by kernel_rfl) (fun K' hK' => ?_)
              go_simp
              refine (write_ok S P r sa sb so 4 sc pa pb 0 n pc (tt : Int) X (n + 1) _ (HE.out.1.1.s.below K4.out.1 (Nat.le_refl _)) (HE.out.1.2.2.1.s.below K4.out.1 (Nat.le_refl _)) K4.out.2.2.2 (by omega) HE.out.1.2.2.2.2.1 (runB_t HVd.out rfl) (by omega) (by omega) (by rw [HXX.out, dblL_len]; omega) (by have := HD.out.2.2.2.1; omega) rfl).mono ?_
              rintro e V5 ⟨hp, hb⟩
              obtain ⟨qa, qb, qc, Y, hY, hqc, hqB, hYg, hP1, rfl⟩ := hp
              have hsz : (W6.heap.size + 1 + 1 + 1) ≤ V4.heap.size := by have := K4.out.1.size; have := HBq.out.2.1; omega
              have hszg : g + 1 ≤ V4.heap.size := by have := K4.out.1.size; have := hgw; omega
              have K5 := Lib.hid (show Below wq.heap.size wq V5 ∧ PensF V5 W2.heap.size (W6.heap.size + 1 + 1 + 1) qa qb 0 (n + 1) (P ++ [((tt : Int), Y)]) ∧ PensF V5 g (g + 1) qa qb 0 (n + 1) (P ++ [((tt : Int), Y)]) ∧ _ ∧ PensF V5 V1.heap.size (V1.heap.size + 1) qa qb 0 (n + 1) (P ++ [((tt : Int), Y)]) from ⟨below_after K4.out.1 hb K4.out.1.size, (HE.out.1.2.2.1.below K4.out.1 (Nat.le_refl _)).snoc hb hsz hqB hYg hP1, (HE.out.1.2.2.2.1.below K4.out.1 (Nat.le_refl _)).snoc hb hszg hqB hYg hP1, blk_below K4.out.2.2.1 hb (blk_lt K4.out.2.2.1), (HE.out.1.2.2.1.s.f K4.out.1 K4.out.2.1 (hi := V1.heap.size + 1)).snoc hb (by have := blk_lt K4.out.2.2.1; omega) hqB hYg hP1⟩)
              have HYY := Lib.hid (show Y.2.2 = dblL by1 ∧ _ from ⟨by rw [hY, HXX.out]; unfold padL; rw [dblL_len]; simp, hqc⟩)
              clear hb hY hqc hqB hYg hP1 hsz hszg
              refine hK' _ _ (⟨blk_below HD.out.2.2.2.2.1 K5.out.1 (blk_lt HD.out.2.2.2.2.1), blk_below HBq.out.2.2.2.1 K5.out.1 (blk_lt HBq.out.2.2.2.1)⟩) ?_
              clear hK' K'
              go_simp
              refine wpAnyH_from (fuel := 2) 9 3 (fun _ _ _ _ _ h => h) (by kernel_rfl) (by decide) (by kernel_rfl) (⟨blk_below HD.out.2.2.2.2.1 K5.out.1 (blk_lt HD.out.2.2.2.2.1), blk_below HBq.out.2.2.2.1 K5.out.1 (blk_lt HBq.out.2.2.2.1)⟩) ?_
              simp only [List.drop_succ_cons, List.drop_zero, List.take_succ_cons, List.take_zero]
              refine wpHeld_cons (.tuple #[.agg #[.slice sa 4 sc, .slice qa (n + 1) qc, .int .i64 r, .bool false], .int .i64 0]) (by kernel_rfl) ?_ ?_
              · intro w' s
                try go_simp
              refine wpHeld_cons (.agg #[.slice sa 4 sc, .slice qa (n + 1) qc, .int .i64 r, .bool false]) (by kernel_rfl) ?_ ?_
              · intro w' s
                try go_simp
              refine wpHeld_cons (.int .i64 0) (by kernel_rfl) ?_ ?_
              · intro w' s
                try go_simp
              refine wpHeld_nil ?_
              go_simp
              refine wpAnyH_one (i := 13) (by kernel_rfl) rfl (by kernel_rfl) (fun K' hK' => ?_)
              have z0 := blk_cell K5.out.2.2.2.1 0
              have f0 := blk_free K5.out.2.2.2.1 0
              have z1 := blk_cell K5.out.2.2.2.1 1
              have f1 := blk_free K5.out.2.2.2.1 1
              have z2 := blk_cell K5.out.2.2.2.1 2
              have f2 := blk_free K5.out.2.2.2.1 2
              have z3 := blk_cell K5.out.2.2.2.1 3
              have f3 := blk_free K5.out.2.2.2.1 3
              go_simp
              have hbF := cell4_below (u0 := (.slice sa 4 sc)) (u1 := (.slice qa (n + 1) qc)) (u2 := (.int .i64 r)) (u3 := (.bool false)) K4.out.2.1 K5.out.1
              have HF := Lib.hid (show ((((V5.setCell ⟨V1.heap.size, 0, none⟩ (.slice sa 4 sc)).setCell ⟨V1.heap.size, 1, none⟩ (.slice qa (n + 1) qc)).setCell ⟨V1.heap.size, 2, none⟩ (.int .i64 r)).setCell ⟨V1.heap.size, 3, none⟩ (.bool false)).heap[V1.heap.size]? = some (.cells #[.slice sa 4 sc, .slice qa (n + 1) qc, .int .i64 r, .bool false] 25 (0, 0)) ∧ Below wq.heap.size wq ((((V5.setCell ⟨V1.heap.size, 0, none⟩ (.slice sa 4 sc)).setCell ⟨V1.heap.size, 1, none⟩ (.slice qa (n + 1) qc)).setCell ⟨V1.heap.size, 2, none⟩ (.int .i64 r)).setCell ⟨V1.heap.size, 3, none⟩ (.bool false)) ∧ PensF ((((V5.setCell ⟨V1.heap.size, 0, none⟩ (.slice sa 4 sc)).setCell ⟨V1.heap.size, 1, none⟩ (.slice qa (n + 1) qc)).setCell ⟨V1.heap.size, 2, none⟩ (.int .i64 r)).setCell ⟨V1.heap.size, 3, none⟩ (.bool false)) W2.heap.size (W6.heap.size + 1 + 1 + 1) qa qb 0 (n + 1) (P ++ [((tt : Int), Y)]) ∧ PensF ((((V5.setCell ⟨V1.heap.size, 0, none⟩ (.slice sa 4 sc)).setCell ⟨V1.heap.size, 1, none⟩ (.slice qa (n + 1) qc)).setCell ⟨V1.heap.size, 2, none⟩ (.int .i64 r)).setCell ⟨V1.heap.size, 3, none⟩ (.bool false)) g (g + 1) qa qb 0 (n + 1) (P ++ [((tt : Int), Y)]) from ⟨cell4_set (u0 := (.slice sa 4 sc)) (u1 := (.slice qa (n + 1) qc)) (u2 := (.int .i64 r)) (u3 := (.bool false)) K5.out.2.2.2.1, hbF, K5.out.2.1.upd2 K5.out.2.2.2.2 (UpdR.set4 (c := V1.heap.size) (u0 := (.slice sa 4 sc)) (u1 := (.slice qa (n + 1) qc)) (u2 := (.int .i64 r)) (u3 := (.bool false)) (Nat.le_refl _) (Nat.lt_succ_self _)), K5.out.2.2.1.upd2 K5.out.2.2.2.2 (UpdR.set4 (c := V1.heap.size) (u0 := (.slice sa 4 sc)) (u1 := (.slice qa (n + 1) qc)) (u2 := (.int .i64 r)) (u3 := (.bool false)) (Nat.le_refl _) (Nat.lt_succ_self _))⟩)
              clear z0 z1 z2 z3 f0 f1 f2 f3
              refine hK' _ _ (⟨blk_below HD.out.2.2.2.2.1 hbF (blk_lt HD.out.2.2.2.2.1), blk_below HBq.out.2.2.2.1 hbF (blk_lt HBq.out.2.2.2.1)⟩) ?_
              clear hK' K'
              go_simp
              refine wpAnyH_from (fuel := 0) 14 1 (fun _ _ _ _ _ h => h) (by kernel_rfl) (by decide) (by kernel_rfl) (⟨blk_below HD.out.2.2.2.2.1 hbF (blk_lt HD.out.2.2.2.2.1), blk_below HBq.out.2.2.2.1 hbF (blk_lt HBq.out.2.2.2.1)⟩) ?_
              simp only [List.drop_succ_cons, List.drop_zero, List.take_succ_cons, List.take_zero]
              refine wpHeld_cons (.int .i64 0) (by kernel_rfl) ?_ ?_
              · intro w' s
                try go_simp
              refine wpHeld_nil ?_
              go_simp
              refine wpAnyH_done (by kernel_rfl) ?_ _
              refine NoPanic.normal ?_
              go_simp
              go_wp2_with fail
              go_meet
              case rel => exact ⟨rfl, V1.heap.size, qa, qb, qc, Y, rfl, HYY.out.1, HYY.out.2, HF⟩
          · go_simp
            have K6 := Lib.hid (show Below wq.heap.size wq (wq.alloc (.cells #[.slice none 0 0, .slice none 0 0, .int .i64 0, .bool false] 25)).drew ∧ wq.heap.size ≤ wq.heap.size ∧ _ ∧ True from ⟨((Below.refl wq.heap.size wq).alloc (Nat.le_refl _) (.cells #[.slice none 0 0, .slice none 0 0, .int .i64 0, .bool false] 25)).drew, Nat.le_refl _, blk_drew (blk_new wq (.cells #[.slice none 0 0, .slice none 0 0, .int .i64 0, .bool false] 25)), trivial⟩)
            generalize (wq.alloc (.cells #[.slice none 0 0, .slice none 0 0, .int .i64 0, .bool false] 25)).drew = V6 at *
            refine hK' _ _ (⟨blk_below HD.out.2.2.2.2.1 K6.out.1 (blk_lt HD.out.2.2.2.2.1), blk_below HBq.out.2.2.2.1 K6.out.1 (blk_lt HBq.out.2.2.2.1)⟩) ?_
            clear hK' K'
            go_simp
            refine wpAnyH_one (i := 7) (by kernel_rfl) rfl (by kernel_rfl) (fun K' hK' => ?_)
            go_simp
            refine (double_any by1 _).mono ?_
            rintro e V7 ⟨⟨X, rfl, hX, hXr⟩, hb⟩
            have HXX := Lib.hid hX
            clear hX
            unfold slV
            have K7 := Lib.hid (show Below wq.heap.size wq V7 ∧ SlR V7 X ∧ _ from ⟨below_after K6.out.1 hb K6.out.1.size, hXr, blk_below K6.out.2.2.1 hb (blk_lt K6.out.2.2.1)⟩)
            clear hb hXr
            refine hK' _ _ (⟨blk_below HD.out.2.2.2.2.1 K7.out.1 (blk_lt HD.out.2.2.2.2.1), blk_below HBq.out.2.2.2.1 K7.out.1 (blk_lt HBq.out.2.2.2.1)⟩) ?_
            clear hK' K'
            go_simp
            refine wpAnyH_one (i := 8) (by kernel_rfl) rfl (by kernel_rfl) (fun K' hK' => ?_)
            go_simp
            refine (write_ok S P r sa sb so 4 sc pa pb 0 n pc (tt : Int) X (n + 1) _ (HE.out.1.1.s.below K7.out.1 (Nat.le_refl _)) (HE.out.1.2.2.1.s.below K7.out.1 (Nat.le_refl _)) K7.out.2.1 (by omega) HE.out.1.2.2.2.2.1 (runB_t HVd.out rfl) (by omega) (by omega) (by rw [HXX.out, dblL_len]; omega) (by have := HD.out.2.2.2.1; omega) rfl).mono ?_
            rintro e V8 ⟨hp, hb⟩
            obtain ⟨qa, qb, qc, Y, hY, hqc, hqB, hYg, hP1, rfl⟩ := hp
            have hsz : (W6.heap.size + 1 + 1 + 1) ≤ V7.heap.size := by have := K7.out.1.size; have := HBq.out.2.1; omega
            have hszg : g + 1 ≤ V7.heap.size := by have := K7.out.1.size; have := hgw; omega
            have K8 := Lib.hid (show Below wq.heap.size wq V8 ∧ PensF V8 W2.heap.size (W6.heap.size + 1 + 1 + 1) qa qb 0 (n + 1) (P ++ [((tt : Int), Y)]) ∧ PensF V8 g (g + 1) qa qb 0 (n + 1) (P ++ [((tt : Int), Y)]) ∧ _ ∧ PensF V8 wq.heap.size (wq.heap.size + 1) qa qb 0 (n + 1) (P ++ [((tt : Int), Y)]) from ⟨below_after K7.out.1 hb K7.out.1.size, (HE.out.1.2.2.1.below K7.out.1 (Nat.le_refl _)).snoc hb hsz hqB hYg hP1, (HE.out.1.2.2.2.1.below K7.out.1 (Nat.le_refl _)).snoc hb hszg hqB hYg hP1, blk_below K7.out.2.2 hb (blk_lt K7.out.2.2), (HE.out.1.2.2.1.s.f K7.out.1 K6.out.2.1 (hi := wq.heap.size + 1)).snoc hb (by have := blk_lt K7.out.2.2; omega) hqB hYg hP1⟩)
            have HYY := Lib.hid (show Y.2.2 = dblL by1 ∧ _ from ⟨by rw [hY, HXX.out]; unfold padL; rw [dblL_len]; simp, hqc⟩)
            clear hb hY hqc hqB hYg hP1 hsz hszg
            refine hK' _ _ (⟨blk_below HD.out.2.2.2.2.1 K8.out.1 (blk_lt HD.out.2.2.2.2.1), blk_below HBq.out.2.2.2.1 K8.out.1 (blk_lt HBq.out.2.2.2.1)⟩) ?_
            clear hK' K'
            go_simp
            refine wpAnyH_from (fuel := 2) 9 3 (fun _ _ _ _ _ h => h) (by kernel_rfl) (by decide) (by kernel_rfl) (⟨blk_below HD.out.2.2.2.2.1 K8.out.1 (blk_lt HD.out.2.2.2.2.1), blk_below HBq.out.2.2.2.1 K8.out.1 (blk_lt HBq.out.2.2.2.1)⟩) ?_
            simp only [List.drop_succ_cons, List.drop_zero, List.take_succ_cons, List.take_zero]
            refine wpHeld_cons (.tuple #[.agg #[.slice sa 4 sc, .slice qa (n + 1) qc, .int .i64 r, .bool false], .int .i64 0]) (by kernel_rfl) ?_ ?_
            · intro w' s
              try go_simp
            refine wpHeld_cons (.agg #[.slice sa 4 sc, .slice qa (n + 1) qc, .int .i64 r, .bool false]) (by kernel_rfl) ?_ ?_
            · intro w' s
              try go_simp
            refine wpHeld_cons (.int .i64 0) (by kernel_rfl) ?_ ?_
            · intro w' s
              try go_simp
            refine wpHeld_nil ?_
            go_simp
            refine wpAnyH_one (i := 13) (by kernel_rfl) rfl (by kernel_rfl) (fun K' hK' => ?_)
            have z0 := blk_cell K8.out.2.2.2.1 0
            have f0 := blk_free K8.out.2.2.2.1 0
            have z1 := blk_cell K8.out.2.2.2.1 1
            have f1 := blk_free K8.out.2.2.2.1 1
            have z2 := blk_cell K8.out.2.2.2.1 2
            have f2 := blk_free K8.out.2.2.2.1 2
            have z3 := blk_cell K8.out.2.2.2.1 3
            have f3 := blk_free K8.out.2.2.2.1 3
            go_simp
            have hbF := cell4_below (u0 := (.slice sa 4 sc)) (u1 := (.slice qa (n + 1) qc)) (u2 := (.int .i64 r)) (u3 := (.bool false)) K6.out.2.1 K8.out.1
            have HF := Lib.hid (show ((((V8.setCell ⟨wq.heap.size, 0, none⟩ (.slice sa 4 sc)).setCell ⟨wq.heap.size, 1, none⟩ (.slice qa (n + 1) qc)).setCell ⟨wq.heap.size, 2, none⟩ (.int .i64 r)).setCell ⟨wq.heap.size, 3, none⟩ (.bool false)).heap[wq.heap.size]? = some (.cells #[.slice sa 4 sc, .slice qa (n + 1) qc, .int .i64 r, .bool false] 25 (0, 0)) ∧ Below wq.heap.size wq ((((V8.setCell ⟨wq.heap.size, 0, none⟩ (.slice sa 4 sc)).setCell ⟨wq.heap.size, 1, none⟩ (.slice qa (n + 1) qc)).setCell ⟨wq.heap.size, 2, none⟩ (.int .i64 r)).setCell ⟨wq.heap.size, 3, none⟩ (.bool false)) ∧ PensF ((((V8.setCell ⟨wq.heap.size, 0, none⟩ (.slice sa 4 sc)).setCell ⟨wq.heap.size, 1, none⟩ (.slice qa (n + 1) qc)).setCell ⟨wq.heap.size, 2, none⟩ (.int .i64 r)).setCell ⟨wq.heap.size, 3, none⟩ (.bool false)) W2.heap.size (W6.heap.size + 1 + 1 + 1) qa qb 0 (n + 1) (P ++ [((tt : Int), Y)]) ∧ PensF ((((V8.setCell ⟨wq.heap.size, 0, none⟩ (.slice sa 4 sc)).setCell ⟨wq.heap.size, 1, none⟩ (.slice qa (n + 1) qc)).setCell ⟨wq.heap.size, 2, none⟩ (.int .i64 r)).setCell ⟨wq.heap.size, 3, none⟩ (.bool false)) g (g + 1) qa qb 0 (n + 1) (P ++ [((tt : Int), Y)]) from ⟨cell4_set (u0 := (.slice sa 4 sc)) (u1 := (.slice qa (n + 1) qc)) (u2 := (.int .i64 r)) (u3 := (.bool false)) K8.out.2.2.2.1, hbF, K8.out.2.1.upd2 K8.out.2.2.2.2 (UpdR.set4 (c := wq.heap.size) (u0 := (.slice sa 4 sc)) (u1 := (.slice qa (n + 1) qc)) (u2 := (.int .i64 r)) (u3 := (.bool false)) (Nat.le_refl _) (Nat.lt_succ_self _)), K8.out.2.2.1.upd2 K8.out.2.2.2.2 (UpdR.set4 (c := wq.heap.size) (u0 := (.slice sa 4 sc)) (u1 := (.slice qa (n + 1) qc)) (u2 := (.int .i64 r)) (u3 := (.bool false)) (Nat.le_refl _) (Nat.lt_succ_self _))⟩)
            clear z0 z1 z2 z3 f0 f1 f2 f3
            refine hK' _ _ (⟨blk_below HD.out.2.2.2.2.1 hbF (blk_lt HD.out.2.2.2.2.1), blk_below HBq.out.2.2.2.1 hbF (blk_lt HBq.out.2.2.2.1)⟩) ?_
            clear hK' K'
            go_simp
            refine wpAnyH_from (fuel := 0) 14 1 (fun _ _ _ _ _ h => h) (by kernel_rfl) (by decide) (by kernel_rfl) (⟨blk_below HD.out.2.2.2.2.1 hbF (blk_lt HD.out.2.2.2.2.1), blk_below HBq.out.2.2.2.1 hbF (blk_lt HBq.out.2.2.2.1)⟩) ?_
            simp only [List.drop_succ_cons, List.drop_zero, List.take_succ_cons, List.take_zero]
            refine wpHeld_cons (.int .i64 0) (by kernel_rfl) ?_ ?_
            · intro w' s
              try go_simp
            refine wpHeld_nil ?_
            go_simp
            refine wpAnyH_done (by kernel_rfl) ?_ _
            refine NoPanic.normal ?_
            go_simp
            go_wp2_with fail
            go_meet
            case rel => exact ⟨rfl, wq.heap.size, qa, qb, qc, Y, rfl, HYY.out.1, HYY.out.2, HF⟩
        case rest =>
          obtain ⟨rfl, bz, qa, qb, qc, Y, rfl, hY, hqc, HZ⟩ := hcut
          have HQ := Lib.hid (And.intro hY hqc)
          have hbz := HZ.out.2.1
          have hlo := HWp.out.2
          have hlohi : W2.heap.size < (W6.heap.size + 1 + 1 + 1) := by omega
          have hqlo : qs ≠ W2.heap.size := by have := HBq.out.2.2.2.2; omega
          have hqbl := HBq.out.2.2.2.2
          have hlo1 : W6.heap.size ≠ W2.heap.size := by omega
          have hlo2 : (W6.heap.size + 1) ≠ W2.heap.size := by omega
          have hlo3 : (W6.heap.size + 1 + 1) ≠ W2.heap.size := by omega
          have K0 := Lib.hid (show Below w.heap.size w wc ∧ (W6.heap.size + 1 + 1 + 1) < wc.heap.size ∧ wc.heap[qs]? = some (.cells #[.bool false, .int .u8 at1, .int .u8 by1] 46 (0, 0)) ∧ wc.heap[W2.heap.size]? = some (.cells #[.slice sa 4 sc, .slice pa n pc, .int .i64 r, .bool false] 25 (0, 0)) ∧ wc.heap[W6.heap.size]? = some (.cells (bV L1) 44 (0, 0)) ∧ wc.heap[(W6.heap.size + 1)]? = some (.cells (bV F) 44 (0, 0)) ∧ wc.heap[(W6.heap.size + 1 + 1)]? = some (.cells (bV G) 44 (0, 0)) ∧ AsO wc (W6.heap.size + 1 + 1 + 1) (.slice (some ⟨g, 0, none⟩) n gc) Wl ∧ SecsF wc W2.heap.size (W6.heap.size + 1 + 1 + 1) sa sb so 4 S ∧ SecsF wc g (g + 1) sa sb so 4 S ∧ PensF wc W2.heap.size (W6.heap.size + 1 + 1 + 1) qa qb 0 (n + 1) (P ++ [((tt : Int), Y)]) ∧ PensF wc g (g + 1) qa qb 0 (n + 1) (P ++ [((tt : Int), Y)]) from ⟨below_after HBq.out.1 hbz HBq.out.1.size, by have := hbz.size; have := HBq.out.2.1; omega, blk_below HBq.out.2.2.2.1 hbz (blk_lt HBq.out.2.2.2.1), blk_below HD.out.2.2.2.2.1 hbz (blk_lt HD.out.2.2.2.2.1), blk_below HD.out.2.2.2.2.2.1 hbz (blk_lt HD.out.2.2.2.2.2.1), blk_below HD.out.2.2.2.2.2.2.1 hbz (blk_lt HD.out.2.2.2.2.2.2.1), blk_below HD.out.2.2.2.2.2.2.2.1 hbz (blk_lt HD.out.2.2.2.2.2.2.2.1), HD.out.2.1.below hbz (Nat.le_refl _), HE.out.1.1.below hbz (Nat.le_refl _), HE.out.1.2.1.below hbz (Nat.le_refl _), HZ.out.2.2.1, HZ.out.2.2.2⟩)
          have z0 := blk_cell HZ.out.1 0
          have z1 := blk_cell HZ.out.1 1
          have z2 := blk_cell HZ.out.1 2
          have z3 := blk_cell HZ.out.1 3
          have y0 := blk_cell K0.out.2.2.2.1 0
          have y1 := blk_cell K0.out.2.2.2.1 1
          have y2 := blk_cell K0.out.2.2.2.1 2
          have y3 := blk_cell K0.out.2.2.2.1 3
          have f0 := blk_free K0.out.2.2.2.1 0
          have f1 := blk_free K0.out.2.2.2.1 1
          have f2 := blk_free K0.out.2.2.2.1 2
          have f3 := blk_free K0.out.2.2.2.1 3
          clear hY hqc hbz
          go_upto_region 21 with fail
          have K1 := Lib.hid (show Below w.heap.size w ((((wc.setCell ⟨W2.heap.size, 0, none⟩ (.slice sa 4 sc)).setCell ⟨W2.heap.size, 1, none⟩ (.slice qa (n + 1) qc)).setCell ⟨W2.heap.size, 2, none⟩ (.int .i64 r)).setCell ⟨W2.heap.size, 3, none⟩ (.bool false)) ∧ (W6.heap.size + 1 + 1 + 1) < ((((wc.setCell ⟨W2.heap.size, 0, none⟩ (.slice sa 4 sc)).setCell ⟨W2.heap.size, 1, none⟩ (.slice qa (n + 1) qc)).setCell ⟨W2.heap.size, 2, none⟩ (.int .i64 r)).setCell ⟨W2.heap.size, 3, none⟩ (.bool false)).heap.size ∧ ((((wc.setCell ⟨W2.heap.size, 0, none⟩ (.slice sa 4 sc)).setCell ⟨W2.heap.size, 1, none⟩ (.slice qa (n + 1) qc)).setCell ⟨W2.heap.size, 2, none⟩ (.int .i64 r)).setCell ⟨W2.heap.size, 3, none⟩ (.bool false)).heap[qs]? = some (.cells #[.bool false, .int .u8 at1, .int .u8 by1] 46 (0, 0)) ∧ ((((wc.setCell ⟨W2.heap.size, 0, none⟩ (.slice sa 4 sc)).setCell ⟨W2.heap.size, 1, none⟩ (.slice qa (n + 1) qc)).setCell ⟨W2.heap.size, 2, none⟩ (.int .i64 r)).setCell ⟨W2.heap.size, 3, none⟩ (.bool false)).heap[W2.heap.size]? = some (.cells #[.slice sa 4 sc, .slice qa (n + 1) qc, .int .i64 r, .bool false] 25 (0, 0)) ∧ ((((wc.setCell ⟨W2.heap.size, 0, none⟩ (.slice sa 4 sc)).setCell ⟨W2.heap.size, 1, none⟩ (.slice qa (n + 1) qc)).setCell ⟨W2.heap.size, 2, none⟩ (.int .i64 r)).setCell ⟨W2.heap.size, 3, none⟩ (.bool false)).heap[W6.heap.size]? = some (.cells (bV L1) 44 (0, 0)) ∧ ((((wc.setCell ⟨W2.heap.size, 0, none⟩ (.slice sa 4 sc)).setCell ⟨W2.heap.size, 1, none⟩ (.slice qa (n + 1) qc)).setCell ⟨W2.heap.size, 2, none⟩ (.int .i64 r)).setCell ⟨W2.heap.size, 3, none⟩ (.bool false)).heap[(W6.heap.size + 1)]? = some (.cells (bV F) 44 (0, 0)) ∧ ((((wc.setCell ⟨W2.heap.size, 0, none⟩ (.slice sa 4 sc)).setCell ⟨W2.heap.size, 1, none⟩ (.slice qa (n + 1) qc)).setCell ⟨W2.heap.size, 2, none⟩ (.int .i64 r)).setCell ⟨W2.heap.size, 3, none⟩ (.bool false)).heap[(W6.heap.size + 1 + 1)]? = some (.cells (bV G) 44 (0, 0)) ∧ AsO ((((wc.setCell ⟨W2.heap.size, 0, none⟩ (.slice sa 4 sc)).setCell ⟨W2.heap.size, 1, none⟩ (.slice qa (n + 1) qc)).setCell ⟨W2.heap.size, 2, none⟩ (.int .i64 r)).setCell ⟨W2.heap.size, 3, none⟩ (.bool false)) (W6.heap.size + 1 + 1 + 1) (.slice (some ⟨g, 0, none⟩) n gc) Wl ∧ SecsF ((((wc.setCell ⟨W2.heap.size, 0, none⟩ (.slice sa 4 sc)).setCell ⟨W2.heap.size, 1, none⟩ (.slice qa (n + 1) qc)).setCell ⟨W2.heap.size, 2, none⟩ (.int .i64 r)).setCell ⟨W2.heap.size, 3, none⟩ (.bool false)) W2.heap.size (W6.heap.size + 1 + 1 + 1) sa sb so 4 S ∧ SecsF ((((wc.setCell ⟨W2.heap.size, 0, none⟩ (.slice sa 4 sc)).setCell ⟨W2.heap.size, 1, none⟩ (.slice qa (n + 1) qc)).setCell ⟨W2.heap.size, 2, none⟩ (.int .i64 r)).setCell ⟨W2.heap.size, 3, none⟩ (.bool false)) g (g + 1) sa sb so 4 S ∧ PensF ((((wc.setCell ⟨W2.heap.size, 0, none⟩ (.slice sa 4 sc)).setCell ⟨W2.heap.size, 1, none⟩ (.slice qa (n + 1) qc)).setCell ⟨W2.heap.size, 2, none⟩ (.int .i64 r)).setCell ⟨W2.heap.size, 3, none⟩ (.bool false)) W2.heap.size (W6.heap.size + 1 + 1 + 1) qa qb 0 (n + 1) (P ++ [((tt : Int), Y)]) ∧ PensF ((((wc.setCell ⟨W2.heap.size, 0, none⟩ (.slice sa 4 sc)).setCell ⟨W2.heap.size, 1, none⟩ (.slice qa (n + 1) qc)).setCell ⟨W2.heap.size, 2, none⟩ (.int .i64 r)).setCell ⟨W2.heap.size, 3, none⟩ (.bool false)) g (g + 1) qa qb 0 (n + 1) (P ++ [((tt : Int), Y)]) from ⟨cell4_below (u0 := (.slice sa 4 sc)) (u1 := (.slice qa (n + 1) qc)) (u2 := (.int .i64 r)) (u3 := (.bool false)) HWp.out.1 K0.out.1, by simp only [World.size_setCell]; exact K0.out.2.1, cell4_other (u0 := (.slice sa 4 sc)) (u1 := (.slice qa (n + 1) qc)) (u2 := (.int .i64 r)) (u3 := (.bool false)) K0.out.2.2.1 hqlo, cell4_set (u0 := (.slice sa 4 sc)) (u1 := (.slice qa (n + 1) qc)) (u2 := (.int .i64 r)) (u3 := (.bool false)) K0.out.2.2.2.1, cell4_other (u0 := (.slice sa 4 sc)) (u1 := (.slice qa (n + 1) qc)) (u2 := (.int .i64 r)) (u3 := (.bool false)) K0.out.2.2.2.2.1 hlo1, cell4_other (u0 := (.slice sa 4 sc)) (u1 := (.slice qa (n + 1) qc)) (u2 := (.int .i64 r)) (u3 := (.bool false)) K0.out.2.2.2.2.2.1 hlo2, cell4_other (u0 := (.slice sa 4 sc)) (u1 := (.slice qa (n + 1) qc)) (u2 := (.int .i64 r)) (u3 := (.bool false)) K0.out.2.2.2.2.2.2.1 hlo3, K0.out.2.2.2.2.2.2.2.1.keep (fun q hq => cell4_keep (u0 := (.slice sa 4 sc)) (u1 := (.slice qa (n + 1) qc)) (u2 := (.int .i64 r)) (u3 := (.bool false)) (by omega)), K0.out.2.2.2.2.2.2.2.2.1.upd (UpdR.set4 (c := W2.heap.size) (u0 := (.slice sa 4 sc)) (u1 := (.slice qa (n + 1) qc)) (u2 := (.int .i64 r)) (u3 := (.bool false)) (Nat.le_refl _) hlohi), K0.out.2.2.2.2.2.2.2.2.2.1.upd2 K0.out.2.2.2.2.2.2.2.2.1 (UpdR.set4 (c := W2.heap.size) (u0 := (.slice sa 4 sc)) (u1 := (.slice qa (n + 1) qc)) (u2 := (.int .i64 r)) (u3 := (.bool false)) (Nat.le_refl _) hlohi), K0.out.2.2.2.2.2.2.2.2.2.2.1.upd (UpdR.set4 (c := W2.heap.size) (u0 := (.slice sa 4 sc)) (u1 := (.slice qa (n + 1) qc)) (u2 := (.int .i64 r)) (u3 := (.bool false)) (Nat.le_refl _) hlohi), K0.out.2.2.2.2.2.2.2.2.2.2.2.upd2 K0.out.2.2.2.2.2.2.2.2.2.2.1 (UpdR.set4 (c := W2.heap.size) (u0 := (.slice sa 4 sc)) (u1 := (.slice qa (n + 1) qc)) (u2 := (.int .i64 r)) (u3 := (.bool false)) (Nat.le_refl _) hlohi)⟩)
          clear z0 z1 z2 z3 y0 y1 y2 y3 f0 f1 f2 f3
          generalize ((((wc.setCell ⟨W2.heap.size, 0, none⟩ (.slice sa 4 sc)).setCell ⟨W2.heap.size, 1, none⟩ (.slice qa (n + 1) qc)).setCell ⟨W2.heap.size, 2, none⟩ (.int .i64 r)).setCell ⟨W2.heap.size, 3, none⟩ (.bool false)) = W8 at *
          have q1 := blk_cell K1.out.2.2.1 1
          have q2 := blk_cell K1.out.2.2.1 2
          have hL4 : tt < L1.length := by have := HD.out.2.2.2.2.2.2.2.2.1; omega
          have l0 := (blk_cell K1.out.2.2.2.2.1 tt).trans (bV_get (L := L1) hL4)
          have l1 := blk_free K1.out.2.2.2.2.1 tt
          have i4 : (tt : Int) < 4 := by omega
          have i5 : ¬ (tt : Int) < 0 := by omega
          have m2 : at1 % 4 = (tt : Int) := hti
          go_upto_region 22 with fail
          have K2 := Lib.hid (show Below w.heap.size w (W8.setCell ⟨W6.heap.size, tt, none⟩ (.int .u8 by1)) ∧ (W6.heap.size + 1 + 1 + 1) < (W8.setCell ⟨W6.heap.size, tt, none⟩ (.int .u8 by1)).heap.size ∧ (W8.setCell ⟨W6.heap.size, tt, none⟩ (.int .u8 by1)).heap[qs]? = some (.cells #[.bool false, .int .u8 at1, .int .u8 by1] 46 (0, 0)) ∧ (W8.setCell ⟨W6.heap.size, tt, none⟩ (.int .u8 by1)).heap[W2.heap.size]? = some (.cells #[.slice sa 4 sc, .slice qa (n + 1) qc, .int .i64 r, .bool false] 25 (0, 0)) ∧ (W8.setCell ⟨W6.heap.size, tt, none⟩ (.int .u8 by1)).heap[W6.heap.size]? = some (.cells (bV (L1.set tt by1)) 44 (0, 0)) ∧ (W8.setCell ⟨W6.heap.size, tt, none⟩ (.int .u8 by1)).heap[(W6.heap.size + 1)]? = some (.cells (bV F) 44 (0, 0)) ∧ (W8.setCell ⟨W6.heap.size, tt, none⟩ (.int .u8 by1)).heap[(W6.heap.size + 1 + 1)]? = some (.cells (bV G) 44 (0, 0)) ∧ AsO (W8.setCell ⟨W6.heap.size, tt, none⟩ (.int .u8 by1)) (W6.heap.size + 1 + 1 + 1) (.slice (some ⟨g, 0, none⟩) n gc) Wl ∧ SecsF (W8.setCell ⟨W6.heap.size, tt, none⟩ (.int .u8 by1)) W2.heap.size (W6.heap.size + 1 + 1 + 1) sa sb so 4 S ∧ SecsF (W8.setCell ⟨W6.heap.size, tt, none⟩ (.int .u8 by1)) g (g + 1) sa sb so 4 S ∧ PensF (W8.setCell ⟨W6.heap.size, tt, none⟩ (.int .u8 by1)) W2.heap.size (W6.heap.size + 1 + 1 + 1) qa qb 0 (n + 1) (P ++ [((tt : Int), Y)]) ∧ PensF (W8.setCell ⟨W6.heap.size, tt, none⟩ (.int .u8 by1)) g (g + 1) qa qb 0 (n + 1) (P ++ [((tt : Int), Y)]) from ⟨K1.out.1.setCell (p := ⟨W6.heap.size, tt, none⟩) (by have := HWp.out; show w.heap.size ≤ W6.heap.size; omega) _, by simp only [World.size_setCell]; exact K1.out.2.1, (Below.heap_setCell W8 ⟨W6.heap.size, tt, none⟩ (.int .u8 by1) qs (by show qs ≠ W6.heap.size; omega)).trans K1.out.2.2.1, (Below.heap_setCell W8 ⟨W6.heap.size, tt, none⟩ (.int .u8 by1) W2.heap.size (by show W2.heap.size ≠ W6.heap.size; omega)).trans K1.out.2.2.2.1, by rw [← bV_set]; exact cells_setU K1.out.2.2.2.2.1, (Below.heap_setCell W8 ⟨W6.heap.size, tt, none⟩ (.int .u8 by1) (W6.heap.size + 1) (by show (W6.heap.size + 1) ≠ W6.heap.size; omega)).trans K1.out.2.2.2.2.2.1, (Below.heap_setCell W8 ⟨W6.heap.size, tt, none⟩ (.int .u8 by1) (W6.heap.size + 1 + 1) (by show (W6.heap.size + 1 + 1) ≠ W6.heap.size; omega)).trans K1.out.2.2.2.2.2.2.1, K1.out.2.2.2.2.2.2.2.1.keep (fun q hq => Below.heap_setCell W8 ⟨W6.heap.size, tt, none⟩ (.int .u8 by1) q (by show q ≠ W6.heap.size; omega)), K1.out.2.2.2.2.2.2.2.2.1.upd ((UpdR.refl W2.heap.size (W6.heap.size + 1 + 1 + 1) W8).setCell (c := W6.heap.size) (i := tt) (v := .int .u8 by1) (Nat.le_of_lt HWp.out.2) (by omega)), K1.out.2.2.2.2.2.2.2.2.2.1.upd2 K1.out.2.2.2.2.2.2.2.2.1 ((UpdR.refl W2.heap.size (W6.heap.size + 1 + 1 + 1) W8).setCell (c := W6.heap.size) (i := tt) (v := .int .u8 by1) (Nat.le_of_lt HWp.out.2) (by omega)), K1.out.2.2.2.2.2.2.2.2.2.2.1.upd ((UpdR.refl W2.heap.size (W6.heap.size + 1 + 1 + 1) W8).setCell (c := W6.heap.size) (i := tt) (v := .int .u8 by1) (Nat.le_of_lt HWp.out.2) (by omega)), K1.out.2.2.2.2.2.2.2.2.2.2.2.upd2 K1.out.2.2.2.2.2.2.2.2.2.2.1 ((UpdR.refl W2.heap.size (W6.heap.size + 1 + 1 + 1) W8).setCell (c := W6.heap.size) (i := tt) (v := .int .u8 by1) (Nat.le_of_lt HWp.out.2) (by omega))⟩)
          clear q1 q2 l0 l1 i4 i5 m2
          generalize (W8.setCell ⟨W6.heap.size, tt, none⟩ (.int .u8 by1)) = W9 at *
          have q0 := blk_cell K2.out.2.2.1 0
          have q1 := blk_cell K2.out.2.2.1 1
          have q2 := blk_cell K2.out.2.2.1 2
          go_cut [11] from 80 to 83 (fun v wx => ∃ g2 gc2 : Nat, v = .slice (some ⟨g2, 0, none⟩) (n + 1) gc2 ∧ (W6.heap.size + 1 + 1 + 1) ≤ g2 ∧ Hid (Below w.heap.size w wx ∧ (W6.heap.size + 1 + 1 + 1) < wx.heap.size ∧ wx.heap[W2.heap.size]? = some (.cells #[.slice sa 4 sc, .slice qa (n + 1) qc, .int .i64 r, .bool false] 25 (0, 0)) ∧ wx.heap[W6.heap.size]? = some (.cells (bV (L1.set tt by1)) 44 (0, 0)) ∧ wx.heap[(W6.heap.size + 1)]? = some (.cells (bV F) 44 (0, 0)) ∧ wx.heap[(W6.heap.size + 1 + 1)]? = some (.cells (bV G) 44 (0, 0)) ∧ AsO wx (W6.heap.size + 1 + 1 + 1) (.slice (some ⟨g2, 0, none⟩) (n + 1) gc2) (Wl ++ [(false, at1, by1)]) ∧ SecsF wx W2.heap.size (W6.heap.size + 1 + 1 + 1) sa sb so 4 S ∧ SecsF wx g2 (g2 + 1) sa sb so 4 S ∧ PensF wx W2.heap.size (W6.heap.size + 1 + 1 + 1) qa qb 0 (n + 1) (P ++ [((tt : Int), Y)]) ∧ PensF wx g2 (g2 + 1) qa qb 0 (n + 1) (P ++ [((tt : Int), Y)])))
          case first =>
            go_wp2_with (with_reducible refine held (o := ⟨some 83, _, _, _, _, _⟩) ?_)
            unfold Held
            have K3 := Lib.hid (show Below w.heap.size w (W9.alloc (.cells #[.bool false, .int .u8 at1, .int .u8 by1] 46)) ∧ (W6.heap.size + 1 + 1 + 1) < (W9.alloc (.cells #[.bool false, .int .u8 at1, .int .u8 by1] 46)).heap.size ∧ (W9.alloc (.cells #[.bool false, .int .u8 at1, .int .u8 by1] 46)).heap[qs]? = some (.cells #[.bool false, .int .u8 at1, .int .u8 by1] 46 (0, 0)) ∧ (W9.alloc (.cells #[.bool false, .int .u8 at1, .int .u8 by1] 46)).heap[W2.heap.size]? = some (.cells #[.slice sa 4 sc, .slice qa (n + 1) qc, .int .i64 r, .bool false] 25 (0, 0)) ∧ (W9.alloc (.cells #[.bool false, .int .u8 at1, .int .u8 by1] 46)).heap[W6.heap.size]? = some (.cells (bV (L1.set tt by1)) 44 (0, 0)) ∧ (W9.alloc (.cells #[.bool false, .int .u8 at1, .int .u8 by1] 46)).heap[(W6.heap.size + 1)]? = some (.cells (bV F) 44 (0, 0)) ∧ (W9.alloc (.cells #[.bool false, .int .u8 at1, .int .u8 by1] 46)).heap[(W6.heap.size + 1 + 1)]? = some (.cells (bV G) 44 (0, 0)) ∧ AsO (W9.alloc (.cells #[.bool false, .int .u8 at1, .int .u8 by1] 46)) (W6.heap.size + 1 + 1 + 1) (.slice (some ⟨g, 0, none⟩) n gc) Wl ∧ SecsF (W9.alloc (.cells #[.bool false, .int .u8 at1, .int .u8 by1] 46)) W2.heap.size (W6.heap.size + 1 + 1 + 1) sa sb so 4 S ∧ SecsF (W9.alloc (.cells #[.bool false, .int .u8 at1, .int .u8 by1] 46)) g (g + 1) sa sb so 4 S ∧ PensF (W9.alloc (.cells #[.bool false, .int .u8 at1, .int .u8 by1] 46)) W2.heap.size (W6.heap.size + 1 + 1 + 1) qa qb 0 (n + 1) (P ++ [((tt : Int), Y)]) ∧ PensF (W9.alloc (.cells #[.bool false, .int .u8 at1, .int .u8 by1] 46)) g (g + 1) qa qb 0 (n + 1) (P ++ [((tt : Int), Y)]) from ⟨K2.out.1.alloc K2.out.1.size (.cells #[.bool false, .int .u8 at1, .int .u8 by1] 46), by have := K2.out.2.1; simp; omega, blk_alloc K2.out.2.2.1 (.cells #[.bool false, .int .u8 at1, .int .u8 by1] 46), blk_alloc K2.out.2.2.2.1 (.cells #[.bool false, .int .u8 at1, .int .u8 by1] 46), blk_alloc K2.out.2.2.2.2.1 (.cells #[.bool false, .int .u8 at1, .int .u8 by1] 46), blk_alloc K2.out.2.2.2.2.2.1 (.cells #[.bool false, .int .u8 at1, .int .u8 by1] 46), blk_alloc K2.out.2.2.2.2.2.2.1 (.cells #[.bool false, .int .u8 at1, .int .u8 by1] 46), K2.out.2.2.2.2.2.2.2.1.alloc (.cells #[.bool false, .int .u8 at1, .int .u8 by1] 46), K2.out.2.2.2.2.2.2.2.2.1.below ((Below.refl W9.heap.size W9).alloc (Nat.le_refl _) (.cells #[.bool false, .int .u8 at1, .int .u8 by1] 46)) (Nat.le_refl _), K2.out.2.2.2.2.2.2.2.2.2.1.below ((Below.refl W9.heap.size W9).alloc (Nat.le_refl _) (.cells #[.bool false, .int .u8 at1, .int .u8 by1] 46)) (Nat.le_refl _), K2.out.2.2.2.2.2.2.2.2.2.2.1.below ((Below.refl W9.heap.size W9).alloc (Nat.le_refl _) (.cells #[.bool false, .int .u8 at1, .int .u8 by1] 46)) (Nat.le_refl _), K2.out.2.2.2.2.2.2.2.2.2.2.2.below ((Below.refl W9.heap.size W9).alloc (Nat.le_refl _) (.cells #[.bool false, .int .u8 at1, .int .u8 by1] 46)) (Nat.le_refl _)⟩)
            have hnb := blk_new W9 (.cells #[.bool false, .int .u8 at1, .int .u8 by1] 46)
            clear q0 q1 q2
            generalize W9.alloc (.cells #[.bool false, .int .u8 at1, .int .u8 by1] 46) = W10 at *
            refine wpList_append_Ag rfl (.tmp 80) (.tmp 82) rfl (W6.heap.size + 1 + 1 + 1) g n gc Wl rfl K3.out.2.2.2.2.2.2.2.1 HD.out.2.2.1 W9.heap.size (false, at1, by1) rfl _ (0, 0) hnb (by have := HD.out.2.2.2.1; omega) (by have := K3.out.2.1; omega) ?_
            intro g2 gc2 W11 hAO2 hg2 hgr
            have H4 := Lib.hid (show Below w.heap.size w W11 ∧ (W6.heap.size + 1 + 1 + 1) < W11.heap.size ∧ W11.heap[W2.heap.size]? = some (.cells #[.slice sa 4 sc, .slice qa (n + 1) qc, .int .i64 r, .bool false] 25 (0, 0)) ∧ W11.heap[W6.heap.size]? = some (.cells (bV (L1.set tt by1)) 44 (0, 0)) ∧ W11.heap[(W6.heap.size + 1)]? = some (.cells (bV F) 44 (0, 0)) ∧ W11.heap[(W6.heap.size + 1 + 1)]? = some (.cells (bV G) 44 (0, 0)) ∧ AsO W11 (W6.heap.size + 1 + 1 + 1) (.slice (some ⟨g2, 0, none⟩) (n + 1) gc2) (Wl ++ [(false, at1, by1)]) ∧ SecsF W11 W2.heap.size (W6.heap.size + 1 + 1 + 1) sa sb so 4 S ∧ SecsF W11 g2 (g2 + 1) sa sb so 4 S ∧ PensF W11 W2.heap.size (W6.heap.size + 1 + 1 + 1) qa qb 0 (n + 1) (P ++ [((tt : Int), Y)]) ∧ PensF W11 g2 (g2 + 1) qa qb 0 (n + 1) (P ++ [((tt : Int), Y)]) from ⟨K3.out.1.grown hgr K3.out.1.size (fun q hq => by cases hq; have := HD.out.1; have := HWp.out; omega), by have := hgr.size; have := K3.out.2.1; omega, (hgr.block W2.heap.size (blk_lt K3.out.2.2.2.1) (by intro e; have := Option.some.inj e; have := HD.out.1; omega)).trans K3.out.2.2.2.1, (hgr.block W6.heap.size (blk_lt K3.out.2.2.2.2.1) (by intro e; have := Option.some.inj e; have := HD.out.1; omega)).trans K3.out.2.2.2.2.1, (hgr.block (W6.heap.size + 1) (blk_lt K3.out.2.2.2.2.2.1) (by intro e; have := Option.some.inj e; have := HD.out.1; omega)).trans K3.out.2.2.2.2.2.1, (hgr.block (W6.heap.size + 1 + 1) (blk_lt K3.out.2.2.2.2.2.2.1) (by intro e; have := Option.some.inj e; have := HD.out.1; omega)).trans K3.out.2.2.2.2.2.2.1, hAO2, K3.out.2.2.2.2.2.2.2.2.1.upd2 K3.out.2.2.2.2.2.2.2.2.2.1 (UpdR.of_grown hgr), K3.out.2.2.2.2.2.2.2.2.2.1.fresh (UpdR.of_grown hgr) hg2, K3.out.2.2.2.2.2.2.2.2.2.2.1.upd2 K3.out.2.2.2.2.2.2.2.2.2.2.2 (UpdR.of_grown hgr), K3.out.2.2.2.2.2.2.2.2.2.2.2.fresh (UpdR.of_grown hgr) hg2⟩)
            have hg3 : (W6.heap.size + 1 + 1 + 1) ≤ g2 := by
              rcases hg2 with rfl | h
              · exact HD.out.1
              · have := K3.out.2.1; omega
            clear hAO2 hg2 hgr hnb
            go_wp2_with fail
            go_meet
            case rel => exact ⟨g2, gc2, rfl, hg3, H4⟩
          case rest =>
            obtain ⟨g2, gc2, rfl, hg2, H4⟩ := hcut
            have HBn := Lib.hid (show Below w.heap.size w wc ∧ (W6.heap.size + 1 + 1 + 1) < wc.heap.size from ⟨H4.out.1, H4.out.2.1⟩)
            have HVn : Hid (HInv W2.heap.size (W6.heap.size + 1 + 1 + 1) W2.heap.size W6.heap.size (W6.heap.size + 1) (W6.heap.size + 1 + 1) (.slice (some ⟨g2, 0, none⟩) (n + 1) gc2) r (k + 1) wc) := Lib.hid ⟨n + 1, g2, gc2, Wl ++ [(false, at1, by1)], S, P ++ [((tt : Int), Y)], F, G, L1.set tt by1, sa, sb, so, sc, qa, qb, qc, rfl, hg2, H4.out.2.2.2.2.2.2.1, by simp; exact HD.out.2.2.1, by have := HD.out.2.2.2.1; omega, H4.out.2.2.1, ⟨H4.out.2.2.2.1, H4.out.2.2.2.2.1, H4.out.2.2.2.2.2.1, by simp; exact HD.out.2.2.2.2.2.2.2.2.1, HD.out.2.2.2.2.2.2.2.2.2.1, HD.out.2.2.2.2.2.2.2.2.2.2⟩, ⟨H4.out.2.2.2.2.2.2.2.1, H4.out.2.2.2.2.2.2.2.2.1, H4.out.2.2.2.2.2.2.2.2.2.1, H4.out.2.2.2.2.2.2.2.2.2.2, HQ.out.2, HE.out.1.2.2.2.2.2⟩, HE.out.2.1.snoc HD.out.2.2.1 HTT.out HQ.out.1, HE.out.2.2.1, read_h HE.out.2.1.1 HD.out.2.2.2.2.2.2.2.2.1 htl HQ.out.1 HE.out.2.2.2.1, fun j hj => by
                by_cases e : j < n
                · rw [nthA_app_l (by have := HD.out.2.2.1; omega)]; exact HE.out.2.2.2.2.1 j e
                · obtain rfl : j = Wl.length := by have := HD.out.2.2.1; omega
                  rw [nthA_app_r]; exact hwf, HE.out.2.2.2.2.2.1, HE.out.2.2.2.2.2.2⟩
            clear q0 q1 q2
            clear HE HD
            obtain ⟨n3, g3, gc3, Wl3, S3, P3, F3, G3, L3, sa3, sb3, so3, sc3, pa3, pb3, pc3, -, -, -, -, hn3, hd3, ⟨hl3, -, -, hL3, -, -⟩, ⟨hS3, -, hP3, -, -, -⟩, hPH3, hc3, hR3, -, hr03, hr13⟩ := HVn.out
            obtain ⟨m0, m1, m2, m3, rfl⟩ : ∃ m0 m1 m2 m3, L3 = [m0, m1, m2, m3] := by
              match L3, hL3 with
              | [a, b, c, d], _ => exact ⟨a, b, c, d, rfl⟩
            have hl4 : wc.heap[W6.heap.size]? = some (.cells #[.int .u8 m0, .int .u8 m1, .int .u8 m2, .int .u8 m3] 44 (0, 0)) := hl3
            have hv3 := valid_h (lf := r) hS3.s.len hc3 hPH3 (by omega) (by omega) (by omega)
            have H38 := Lib.hid (show _ ∧ _ ∧ _ ∧ _ from ⟨hS3.s, hP3.s, hv3, hR3⟩)
            have x0 := blk_cell hd3 0
            have x1 := blk_cell hd3 1
            have x2 := blk_cell hd3 2
            have x3 := blk_cell hd3 3
            have y0 := blk_cell hl4 0
            have y1 := blk_cell hl4 1
            have y2 := blk_cell hl4 2
            have y3 := blk_cell hl4 3
            clear hl3 hl4 hS3 hP3 hPH3 hc3 hR3 hv3 hd3 hL3
            go_wp2_with fail
            clear x0 x1 x2 x3 y0 y1 y2 y3
            refine (holds_any S3 P3 r sa3 sb3 so3 sc3 pa3 pb3 0 n3 pc3 [m0, m1, m2, m3] [m0, m1, m2, m3] wc H38.out.1 H38.out.2.1 (by omega) rfl rfl (runB_t H38.out.2.2.1 rfl) H38.out.2.2.2).mono ?_
            rintro e Wh ⟨rfl, hbh⟩
            have HBm := Lib.hid (show Below w.heap.size w Wh ∧ (W6.heap.size + 1 + 1 + 1) < Wh.heap.size from ⟨below_after HBn.out.1 hbh HBn.out.1.size, by have := hbh.size; have := HBn.out.2; omega⟩)
            have HVm := Lib.hid (HVn.out.below hbh)
            clear hbh
            go_wp2_with fail
            go_roundw
            case rel => exact ⟨k + 1, r, by omega, by go_num, rfl, HBm, HVm⟩
            case measure => simp [intOf]; omega
      case true =>
        have hgw : g < wq.heap.size := by
          rcases HD.out.2.1.2 with ⟨h, _⟩ | ⟨g', _, _, h1, _, h3, _⟩
          · cases h
          · cases h1; exact blk_lt h3
        have hgw1 : g + 1 ≤ wq.heap.size := hgw
        have x0 := blk_cell HD.out.2.2.2.2.1 0
        have x1 := blk_cell HD.out.2.2.2.2.1 1
        have x2 := blk_cell HD.out.2.2.2.2.1 2
        have x3 := blk_cell HD.out.2.2.2.2.1 3
        go_wp2_with fail
        clear x0 x1 x2 x3 q0
        by_cases hst : (n : Int) ≤ r
        · refine (sync_any S P r false sa sb so 4 sc pa pb 0 n pc wq HE.out.1.1.s HE.out.1.2.2.1.s (by omega) (by have := HD.out.2.2.2.1; omega) HE.out.1.2.2.2.2.1 HE.out.1.2.2.2.2.2).mono ?_
          rintro e W8 ⟨hp, hb⟩
          obtain ⟨b3, cap3, hcap3, hB3, hS3, he⟩ := hp.done (runB_t HVd.out rfl) (.inr hst)
          obtain ⟨G1, hG1⟩ : ∃ G1, G1 = r - (n : Int) := ⟨_, rfl⟩
          rw [if_neg (by omega), ← hG1] at he
          subst he
          have HG1 := Lib.hid hG1
          clear hG1
          obtain ⟨TT, hTT⟩ : ∃ TT, TT = perfK S P n := ⟨_, rfl⟩
          have hT1 := secsF_perf HE.out.1.1 HE.out.1.2.2.1 (Nat.le_refl _) hb (by have := HBq.out.2.1; omega) hB3 hS3
          have hT2 := secsF_perf HE.out.1.2.1 HE.out.1.2.2.2.1 (Nat.le_refl _) hb hgw1 hB3 hS3
          rw [← hTT] at hT1 hT2
          go_upto_region 24 with fail
          have hxs0 : (W6.heap.size + 1 + 1 + 1) < W8.heap.size ∧ g < W8.heap.size := by have := hb.size; have := HBq.out.2.1; omega
          have L0 := Lib.hid (show Below w.heap.size w (W8.alloc (.cells #[.slice (some ⟨b3, 0, none⟩) 4 cap3, .slice none 0 0, .int .i64 G1, .bool false] 25)) ∧ (W6.heap.size + 1 + 1 + 1) < (W8.alloc (.cells #[.slice (some ⟨b3, 0, none⟩) 4 cap3, .slice none 0 0, .int .i64 G1, .bool false] 25)).heap.size ∧ (W8.alloc (.cells #[.slice (some ⟨b3, 0, none⟩) 4 cap3, .slice none 0 0, .int .i64 G1, .bool false] 25)).heap[W2.heap.size]? = some (.cells #[.slice sa 4 sc, .slice pa n pc, .int .i64 r, .bool false] 25 (0, 0)) ∧ (W8.alloc (.cells #[.slice (some ⟨b3, 0, none⟩) 4 cap3, .slice none 0 0, .int .i64 G1, .bool false] 25)).heap[W6.heap.size]? = some (.cells (bV L1) 44 (0, 0)) ∧ (W8.alloc (.cells #[.slice (some ⟨b3, 0, none⟩) 4 cap3, .slice none 0 0, .int .i64 G1, .bool false] 25)).heap[(W6.heap.size + 1)]? = some (.cells (bV (runF Wl F 0)) 44 (0, 0)) ∧ (W8.alloc (.cells #[.slice (some ⟨b3, 0, none⟩) 4 cap3, .slice none 0 0, .int .i64 G1, .bool false] 25)).heap[(W6.heap.size + 1 + 1)]? = some (.cells (bV (runF Wl G (min 0 r.toNat))) 44 (0, 0)) ∧ AsO (W8.alloc (.cells #[.slice (some ⟨b3, 0, none⟩) 4 cap3, .slice none 0 0, .int .i64 G1, .bool false] 25)) (W6.heap.size + 1 + 1 + 1) (.slice (some ⟨g, 0, none⟩) n gc) Wl ∧ SecsF (W8.alloc (.cells #[.slice (some ⟨b3, 0, none⟩) 4 cap3, .slice none 0 0, .int .i64 G1, .bool false] 25)) W2.heap.size (W6.heap.size + 1 + 1 + 1) (some ⟨b3, 0, none⟩) b3 0 4 TT ∧ SecsF (W8.alloc (.cells #[.slice (some ⟨b3, 0, none⟩) 4 cap3, .slice none 0 0, .int .i64 G1, .bool false] 25)) g (g + 1) (some ⟨b3, 0, none⟩) b3 0 4 TT ∧ (W8.alloc (.cells #[.slice (some ⟨b3, 0, none⟩) 4 cap3, .slice none 0 0, .int .i64 G1, .bool false] 25)).heap[W8.heap.size]? = some (.cells #[.slice (some ⟨b3, 0, none⟩) 4 cap3, .slice none 0 0, .int .i64 G1, .bool false] 25 (0, 0)) from ⟨(below_after HBq.out.1 hb HBq.out.1.size).alloc (below_after HBq.out.1 hb HBq.out.1.size).size (.cells #[.slice (some ⟨b3, 0, none⟩) 4 cap3, .slice none 0 0, .int .i64 G1, .bool false] 25), by have := hb.size; have := HBq.out.2.1; simp; omega, blk_alloc (blk_below HD.out.2.2.2.2.1 hb (blk_lt HD.out.2.2.2.2.1)) (.cells #[.slice (some ⟨b3, 0, none⟩) 4 cap3, .slice none 0 0, .int .i64 G1, .bool false] 25), blk_alloc (blk_below HD.out.2.2.2.2.2.1 hb (blk_lt HD.out.2.2.2.2.2.1)) (.cells #[.slice (some ⟨b3, 0, none⟩) 4 cap3, .slice none 0 0, .int .i64 G1, .bool false] 25), blk_alloc (blk_below HD.out.2.2.2.2.2.2.1 hb (blk_lt HD.out.2.2.2.2.2.2.1)) (.cells #[.slice (some ⟨b3, 0, none⟩) 4 cap3, .slice none 0 0, .int .i64 G1, .bool false] 25), by rw [Nat.zero_min]; exact blk_alloc (blk_below HD.out.2.2.2.2.2.2.2.1 hb (blk_lt HD.out.2.2.2.2.2.2.2.1)) (.cells #[.slice (some ⟨b3, 0, none⟩) 4 cap3, .slice none 0 0, .int .i64 G1, .bool false] 25), (HD.out.2.1.below hb (Nat.le_refl _)).alloc (.cells #[.slice (some ⟨b3, 0, none⟩) 4 cap3, .slice none 0 0, .int .i64 G1, .bool false] 25), hT1.below ((Below.refl W8.heap.size W8).alloc (Nat.le_refl _) (.cells #[.slice (some ⟨b3, 0, none⟩) 4 cap3, .slice none 0 0, .int .i64 G1, .bool false] 25)) (Nat.le_refl _), hT2.below ((Below.refl W8.heap.size W8).alloc (Nat.le_refl _) (.cells #[.slice (some ⟨b3, 0, none⟩) 4 cap3, .slice none 0 0, .int .i64 G1, .bool false] 25)) (Nat.le_refl _), blk_new W8 (.cells #[.slice (some ⟨b3, 0, none⟩) 4 cap3, .slice none 0 0, .int .i64 G1, .bool false] 25)⟩)
          obtain ⟨xs, hxs⟩ : ∃ xs, xs = W8.heap.size := ⟨_, rfl⟩
          rw [← hxs] at L0 hxs0 ⊢
          generalize W8.alloc (.cells #[.slice (some ⟨b3, 0, none⟩) 4 cap3, .slice none 0 0, .int .i64 G1, .bool false] 25) = W9 at *
          have HTT := Lib.hid hTT
          clear hT1 hT2 hTT hS3 hb hB3 hp hxs
          have hgHI := HD.out.1
          have hlo := HWp.out.2
          have hr0 := HE.out.2.2.2.2.2.1
          go_wp2_with fail
          go_loopw [20] (fun v wr => ∃ j : Nat, j ≤ n ∧ (j : Int) ≤ r + 1 ∧ v = .int .i64 j ∧ Hid (Below w.heap.size w wr ∧ (W6.heap.size + 1 + 1 + 1) < wr.heap.size ∧ wr.heap[W2.heap.size]? = some (.cells #[.slice sa 4 sc, .slice pa n pc, .int .i64 r, .bool false] 25 (0, 0)) ∧ wr.heap[W6.heap.size]? = some (.cells (bV L1) 44 (0, 0)) ∧ wr.heap[(W6.heap.size + 1)]? = some (.cells (bV (runF Wl F j)) 44 (0, 0)) ∧ wr.heap[(W6.heap.size + 1 + 1)]? = some (.cells (bV (runF Wl G (min j r.toNat))) 44 (0, 0)) ∧ AsO wr (W6.heap.size + 1 + 1 + 1) (.slice (some ⟨g, 0, none⟩) n gc) Wl ∧ SecsF wr W2.heap.size (W6.heap.size + 1 + 1 + 1) (some ⟨b3, 0, none⟩) b3 0 4 TT ∧ SecsF wr g (g + 1) (some ⟨b3, 0, none⟩) b3 0 4 TT ∧ wr.heap[xs]? = some (.cells #[.slice (some ⟨b3, 0, none⟩) 4 cap3, .slice none 0 0, .int .i64 G1, .bool false] 25 (0, 0)))) (fun v _ => n - (intOf v).toNat)
          case atStart => exact ⟨0, Nat.zero_le _, by omega, rfl, L0⟩
          case round =>
            obtain ⟨j, hjn, hjr, rfl, L1'⟩ := hrel
            by_cases hgo : j < n ∧ (j : Int) ≤ r
            · obtain ⟨hj1, hj2⟩ := hgo
              have j1 : (j : Int) < (n : Int) := by omega
              have j2 : ¬ (j : Int) < 0 := by omega
              have u1 : IntKind.i64.wrap ((j : Int) + 1) = ((j + 1 : Nat) : Int) := (wrap_id (by have := HD.out.2.2.2.1; omega)).trans (by omega)
              obtain ⟨-, e1, e2⟩ := encLA_get Wl j (by have := HD.out.2.2.1; omega)
              have c1 := (L1'.out.2.2.2.2.2.2.1.cellAt HD.out.2.2.1 (j * 3 + 1) (by omega)).trans e1
              have c2 := (L1'.out.2.2.2.2.2.2.1.cellAt HD.out.2.2.1 (j * 3 + 2) (by omega)).trans e2
              have hwj := HE.out.2.2.2.2.1 j hj1
              have hlt := atA_lt (l := Wl) (n := 4) (k := j) (by omega)
              have hai := atA_int (l := Wl) (n := 4) (k := j) (by omega)
              obtain ⟨tj, htj⟩ : ∃ tj, tj = atA Wl 4 j := ⟨_, rfl⟩
              obtain ⟨av, hav⟩ : ∃ av, av = (nthA Wl j).2.1 := ⟨_, rfl⟩
              obtain ⟨bv, hbv⟩ : ∃ bv, bv = (nthA Wl j).2.2 := ⟨_, rfl⟩
              rw [← hav] at c1 hai
              rw [← hbv] at c2
              rw [← htj] at hlt hai
              have havb : 0 ≤ av ∧ av ≤ 255 := by rw [hav]; exact hwj.1
              have m2 : av % 4 = (tj : Int) := hai
              have m1 : av.tmod 4 = (tj : Int) := by rw [Int.tmod_eq_emod_of_nonneg havb.1]; exact hai
              have u2 : IntKind.u8.wrap (tj : Int) = (tj : Int) := by rw [IntKind.wrap_u8]; omega
              have i4 : (tj : Int) < 4 := by omega
              have i5 : ¬ (tj : Int) < 0 := by omega
              have hFl := HD.out.2.2.2.2.2.2.2.2.2.1
              have hGl := HD.out.2.2.2.2.2.2.2.2.2.2
              have HJc := Lib.hid (And.intro c1 c2)
              have HJt := Lib.hid (show tj = atA Wl 4 j ∧ bv = byA Wl j ∧ j < n from ⟨htj, hbv, hj1⟩)
              clear c1 c2 e1 e2 hwj hai htj hav hbv hj1 hjn
              go_upto_region 28 with fail
              refine wp_region_from 0 12 (fun w' => w'.cell? ⟨g, j * 3 + 1, none⟩ = some (.int .u8 av) ∧ w'.cell? ⟨g, j * 3 + 2, none⟩ = some (.int .u8 bv)) (by kernel_rfl) (by kernel_rfl) (by decide) (by kernel_rfl) (⟨HJc.out.1, HJc.out.2⟩) ?_
              simp only [List.drop_zero, List.take_succ_cons, List.take_zero]
              refine wpHeld_cons (.slice (some ⟨g, 0, none⟩) n gc) (by kernel_rfl) ?_ ?_
              · rintro w' ⟨s1, s2⟩
                try go_simp
              refine wpHeld_cons (.int .i64 (j : Int)) (by kernel_rfl) ?_ ?_
              · rintro w' ⟨s1, s2⟩
                try go_simp
              refine wpHeld_cons (.pointer (some ⟨g, j * 3, none⟩)) (by kernel_rfl) ?_ ?_
              · rintro w' ⟨s1, s2⟩
                try go_simp
              refine wpHeld_cons (.pointer (some ⟨g, j * 3 + 1, none⟩)) (by kernel_rfl) ?_ ?_
              · rintro w' ⟨s1, s2⟩
                try go_simp
              refine wpHeld_cons (.int .u8 av) (by kernel_rfl) ?_ ?_
              · rintro w' ⟨s1, s2⟩
                try go_simp
              refine wpHeld_cons (.int .u8 (tj : Int)) (by kernel_rfl) ?_ ?_
              · rintro w' ⟨s1, s2⟩
                try go_simp
              refine wpHeld_cons (.slice (some ⟨g, 0, none⟩) n gc) (by kernel_rfl) ?_ ?_
              · rintro w' ⟨s1, s2⟩
                try go_simp
              refine wpHeld_cons (.int .i64 (j : Int)) (by kernel_rfl) ?_ ?_
              · rintro w' ⟨s1, s2⟩
                try go_simp
              refine wpHeld_cons (.pointer (some ⟨g, j * 3, none⟩)) (by kernel_rfl) ?_ ?_
              · rintro w' ⟨s1, s2⟩
                try go_simp
              refine wpHeld_cons (.pointer (some ⟨g, j * 3 + 2, none⟩)) (by kernel_rfl) ?_ ?_
              · rintro w' ⟨s1, s2⟩
                try go_simp
              refine wpHeld_cons (.int .u8 bv) (by kernel_rfl) ?_ ?_
              · rintro w' ⟨s1, s2⟩
                try go_simp
              refine wpHeld_cons (.pointer (some ⟨(W6.heap.size + 1), tj, none⟩)) (by kernel_rfl) ?_ ?_
              · rintro w' ⟨s1, s2⟩
                try go_simp
              refine wpHeld_nil ?_
              go_simp
              refine wpAnyH_one (i := 12) (by kernel_rfl) rfl (by kernel_rfl) (fun K' hK' => ?_)
              have L1'x := Lib.hid (show Below w.heap.size w wr.drew ∧ (W6.heap.size + 1 + 1 + 1) < wr.drew.heap.size ∧ wr.drew.heap[W2.heap.size]? = some (.cells #[.slice sa 4 sc, .slice pa n pc, .int .i64 r, .bool false] 25 (0, 0)) ∧ wr.drew.heap[W6.heap.size]? = some (.cells (bV L1) 44 (0, 0)) ∧ wr.drew.heap[(W6.heap.size + 1)]? = some (.cells (bV (runF Wl F j)) 44 (0, 0)) ∧ wr.drew.heap[(W6.heap.size + 1 + 1)]? = some (.cells (bV (runF Wl G (min j r.toNat))) 44 (0, 0)) ∧ AsO wr.drew (W6.heap.size + 1 + 1 + 1) (.slice (some ⟨g, 0, none⟩) n gc) Wl ∧ SecsF wr.drew W2.heap.size (W6.heap.size + 1 + 1 + 1) (some ⟨b3, 0, none⟩) b3 0 4 TT ∧ SecsF wr.drew g (g + 1) (some ⟨b3, 0, none⟩) b3 0 4 TT ∧ wr.drew.heap[xs]? = some (.cells #[.slice (some ⟨b3, 0, none⟩) 4 cap3, .slice none 0 0, .int .i64 G1, .bool false] 25 (0, 0)) from ⟨L1'.out.1.drew, L1'.out.2.1, blk_drew L1'.out.2.2.1, blk_drew L1'.out.2.2.2.1, blk_drew L1'.out.2.2.2.2.1, blk_drew L1'.out.2.2.2.2.2.1, L1'.out.2.2.2.2.2.2.1.below ((Below.refl wr.heap.size wr).drew) (Nat.le_refl _), L1'.out.2.2.2.2.2.2.2.1.below ((Below.refl wr.heap.size wr).drew) (Nat.le_refl _), L1'.out.2.2.2.2.2.2.2.2.1.below ((Below.refl wr.heap.size wr).drew) (Nat.le_refl _), blk_drew L1'.out.2.2.2.2.2.2.2.2.2⟩)
              have HJd := Lib.hid (show wr.drew.cell? ⟨g, j * 3 + 1, none⟩ = some (.int .u8 av) ∧ wr.drew.cell? ⟨g, j * 3 + 2, none⟩ = some (.int .u8 bv) from HJc.out)
              generalize wr.drew = wrx at *
              have c0 := (blk_cell L1'x.out.2.2.2.2.1 tj).trans (bV_get (by rw [runF_len]; omega))
              have c1 := blk_free L1'x.out.2.2.2.2.1 tj
              go_simp
              have L2 := Lib.hid (show Below w.heap.size w (wrx.setCell ⟨(W6.heap.size + 1), tj, none⟩ (.int .u8 bv)) ∧ (W6.heap.size + 1 + 1 + 1) < (wrx.setCell ⟨(W6.heap.size + 1), tj, none⟩ (.int .u8 bv)).heap.size ∧ (wrx.setCell ⟨(W6.heap.size + 1), tj, none⟩ (.int .u8 bv)).heap[W2.heap.size]? = some (.cells #[.slice sa 4 sc, .slice pa n pc, .int .i64 r, .bool false] 25 (0, 0)) ∧ (wrx.setCell ⟨(W6.heap.size + 1), tj, none⟩ (.int .u8 bv)).heap[W6.heap.size]? = some (.cells (bV L1) 44 (0, 0)) ∧ (wrx.setCell ⟨(W6.heap.size + 1), tj, none⟩ (.int .u8 bv)).heap[(W6.heap.size + 1)]? = some (.cells (bV (runF Wl F (j + 1))) 44 (0, 0)) ∧ (wrx.setCell ⟨(W6.heap.size + 1), tj, none⟩ (.int .u8 bv)).heap[(W6.heap.size + 1 + 1)]? = some (.cells (bV (runF Wl G (min j r.toNat))) 44 (0, 0)) ∧ AsO (wrx.setCell ⟨(W6.heap.size + 1), tj, none⟩ (.int .u8 bv)) (W6.heap.size + 1 + 1 + 1) (.slice (some ⟨g, 0, none⟩) n gc) Wl ∧ SecsF (wrx.setCell ⟨(W6.heap.size + 1), tj, none⟩ (.int .u8 bv)) W2.heap.size (W6.heap.size + 1 + 1 + 1) (some ⟨b3, 0, none⟩) b3 0 4 TT ∧ SecsF (wrx.setCell ⟨(W6.heap.size + 1), tj, none⟩ (.int .u8 bv)) g (g + 1) (some ⟨b3, 0, none⟩) b3 0 4 TT ∧ (wrx.setCell ⟨(W6.heap.size + 1), tj, none⟩ (.int .u8 bv)).heap[xs]? = some (.cells #[.slice (some ⟨b3, 0, none⟩) 4 cap3, .slice none 0 0, .int .i64 G1, .bool false] 25 (0, 0)) from ⟨L1'x.out.1.setCell (p := ⟨(W6.heap.size + 1), tj, none⟩) (by show w.heap.size ≤ (W6.heap.size + 1); have := HWp.out; omega) _, by simp only [World.size_setCell]; exact L1'x.out.2.1, (Below.heap_setCell wrx ⟨(W6.heap.size + 1), tj, none⟩ (.int .u8 bv) W2.heap.size (by show W2.heap.size ≠ (W6.heap.size + 1); omega)).trans L1'x.out.2.2.1, (Below.heap_setCell wrx ⟨(W6.heap.size + 1), tj, none⟩ (.int .u8 bv) W6.heap.size (by show W6.heap.size ≠ (W6.heap.size + 1); omega)).trans L1'x.out.2.2.2.1, by have := cells_setU (i := tj) (v := .int .u8 bv) L1'x.out.2.2.2.2.1; rw [bV_set] at this; rw [HJt.out.1, HJt.out.2.1] at this ⊢; exact this, (Below.heap_setCell wrx ⟨(W6.heap.size + 1), tj, none⟩ (.int .u8 bv) (W6.heap.size + 1 + 1) (by show (W6.heap.size + 1 + 1) ≠ (W6.heap.size + 1); omega)).trans L1'x.out.2.2.2.2.2.1, L1'x.out.2.2.2.2.2.2.1.keep (fun q hq => Below.heap_setCell wrx ⟨(W6.heap.size + 1), tj, none⟩ (.int .u8 bv) q (by show q ≠ (W6.heap.size + 1); omega)), L1'x.out.2.2.2.2.2.2.2.1.upd ((UpdR.refl W2.heap.size (W6.heap.size + 1 + 1 + 1) wrx).setCell (c := (W6.heap.size + 1)) (i := tj) (v := .int .u8 bv) (by omega) (by omega)), L1'x.out.2.2.2.2.2.2.2.2.1.upd2 L1'x.out.2.2.2.2.2.2.2.1 ((UpdR.refl W2.heap.size (W6.heap.size + 1 + 1 + 1) wrx).setCell (c := (W6.heap.size + 1)) (i := tj) (v := .int .u8 bv) (by omega) (by omega)), (Below.heap_setCell wrx ⟨(W6.heap.size + 1), tj, none⟩ (.int .u8 bv) xs (by show xs ≠ (W6.heap.size + 1); omega)).trans L1'x.out.2.2.2.2.2.2.2.2.2⟩)
              have HJe := Lib.hid (show (wrx.setCell ⟨(W6.heap.size + 1), tj, none⟩ (.int .u8 bv)).cell? ⟨g, j * 3 + 1, none⟩ = some (.int .u8 av) ∧ (wrx.setCell ⟨(W6.heap.size + 1), tj, none⟩ (.int .u8 bv)).cell? ⟨g, j * 3 + 2, none⟩ = some (.int .u8 bv) from ⟨by unfold World.cell?; rw [Below.heap_setCell wrx ⟨(W6.heap.size + 1), tj, none⟩ _ g (by show g ≠ (W6.heap.size + 1); omega)]; exact HJd.out.1, by unfold World.cell?; rw [Below.heap_setCell wrx ⟨(W6.heap.size + 1), tj, none⟩ _ g (by show g ≠ (W6.heap.size + 1); omega)]; exact HJd.out.2⟩)
              refine hK' _ _ ⟨HJe.out.1, HJe.out.2⟩ ?_
              clear hK' K' c0 c1 HJd HJc L1' L1'x
              have HJc := HJe
              clear HJe
              generalize (wrx.setCell ⟨(W6.heap.size + 1), tj, none⟩ (.int .u8 bv)) = W12 at *
              refine wpAnyH_done (by kernel_rfl) ?_ _
              refine NoPanic.normal ?_
              go_simp
              by_cases hlr : (j : Int) < r
              · go_upto_region 30 with fail
                refine wp_region_from 0 12 (fun w' => w'.cell? ⟨g, j * 3 + 1, none⟩ = some (.int .u8 av) ∧ w'.cell? ⟨g, j * 3 + 2, none⟩ = some (.int .u8 bv)) (by kernel_rfl) (by kernel_rfl) (by decide) (by kernel_rfl) (⟨HJc.out.1, HJc.out.2⟩) ?_
                simp only [List.drop_zero, List.take_succ_cons, List.take_zero]
                refine wpHeld_cons (.slice (some ⟨g, 0, none⟩) n gc) (by kernel_rfl) ?_ ?_
                · rintro w' ⟨s1, s2⟩
                  try go_simp
                refine wpHeld_cons (.int .i64 (j : Int)) (by kernel_rfl) ?_ ?_
                · rintro w' ⟨s1, s2⟩
                  try go_simp
                refine wpHeld_cons (.pointer (some ⟨g, j * 3, none⟩)) (by kernel_rfl) ?_ ?_
                · rintro w' ⟨s1, s2⟩
                  try go_simp
                refine wpHeld_cons (.pointer (some ⟨g, j * 3 + 1, none⟩)) (by kernel_rfl) ?_ ?_
                · rintro w' ⟨s1, s2⟩
                  try go_simp
                refine wpHeld_cons (.int .u8 av) (by kernel_rfl) ?_ ?_
                · rintro w' ⟨s1, s2⟩
                  try go_simp
                refine wpHeld_cons (.int .u8 (tj : Int)) (by kernel_rfl) ?_ ?_
                · rintro w' ⟨s1, s2⟩
                  try go_simp
                refine wpHeld_cons (.slice (some ⟨g, 0, none⟩) n gc) (by kernel_rfl) ?_ ?_
                · rintro w' ⟨s1, s2⟩
                  try go_simp
                refine wpHeld_cons (.int .i64 (j : Int)) (by kernel_rfl) ?_ ?_
                · rintro w' ⟨s1, s2⟩
                  try go_simp
                refine wpHeld_cons (.pointer (some ⟨g, j * 3, none⟩)) (by kernel_rfl) ?_ ?_
                · rintro w' ⟨s1, s2⟩
                  try go_simp
                refine wpHeld_cons (.pointer (some ⟨g, j * 3 + 2, none⟩)) (by kernel_rfl) ?_ ?_
                · rintro w' ⟨s1, s2⟩
                  try go_simp
                refine wpHeld_cons (.int .u8 bv) (by kernel_rfl) ?_ ?_
                · rintro w' ⟨s1, s2⟩
                  try go_simp
                refine wpHeld_cons (.pointer (some ⟨(W6.heap.size + 1 + 1), tj, none⟩)) (by kernel_rfl) ?_ ?_
                · rintro w' ⟨s1, s2⟩
                  try go_simp
                refine wpHeld_nil ?_
                go_simp
                refine wpAnyH_one (i := 12) (by kernel_rfl) rfl (by kernel_rfl) (fun K' hK' => ?_)
                have L2x := Lib.hid (show Below w.heap.size w W12.drew ∧ (W6.heap.size + 1 + 1 + 1) < W12.drew.heap.size ∧ W12.drew.heap[W2.heap.size]? = some (.cells #[.slice sa 4 sc, .slice pa n pc, .int .i64 r, .bool false] 25 (0, 0)) ∧ W12.drew.heap[W6.heap.size]? = some (.cells (bV L1) 44 (0, 0)) ∧ W12.drew.heap[(W6.heap.size + 1)]? = some (.cells (bV (runF Wl F (j + 1))) 44 (0, 0)) ∧ W12.drew.heap[(W6.heap.size + 1 + 1)]? = some (.cells (bV (runF Wl G (min j r.toNat))) 44 (0, 0)) ∧ AsO W12.drew (W6.heap.size + 1 + 1 + 1) (.slice (some ⟨g, 0, none⟩) n gc) Wl ∧ SecsF W12.drew W2.heap.size (W6.heap.size + 1 + 1 + 1) (some ⟨b3, 0, none⟩) b3 0 4 TT ∧ SecsF W12.drew g (g + 1) (some ⟨b3, 0, none⟩) b3 0 4 TT ∧ W12.drew.heap[xs]? = some (.cells #[.slice (some ⟨b3, 0, none⟩) 4 cap3, .slice none 0 0, .int .i64 G1, .bool false] 25 (0, 0)) from ⟨L2.out.1.drew, L2.out.2.1, blk_drew L2.out.2.2.1, blk_drew L2.out.2.2.2.1, blk_drew L2.out.2.2.2.2.1, blk_drew L2.out.2.2.2.2.2.1, L2.out.2.2.2.2.2.2.1.below ((Below.refl W12.heap.size W12).drew) (Nat.le_refl _), L2.out.2.2.2.2.2.2.2.1.below ((Below.refl W12.heap.size W12).drew) (Nat.le_refl _), L2.out.2.2.2.2.2.2.2.2.1.below ((Below.refl W12.heap.size W12).drew) (Nat.le_refl _), blk_drew L2.out.2.2.2.2.2.2.2.2.2⟩)
                have HJd := Lib.hid (show W12.drew.cell? ⟨g, j * 3 + 1, none⟩ = some (.int .u8 av) ∧ W12.drew.cell? ⟨g, j * 3 + 2, none⟩ = some (.int .u8 bv) from HJc.out)
                generalize W12.drew = W12x at *
                have c0 := (blk_cell L2x.out.2.2.2.2.2.1 tj).trans (bV_get (by rw [runF_len]; omega))
                have c1 := blk_free L2x.out.2.2.2.2.2.1 tj
                go_simp
                have L3 := Lib.hid (show Below w.heap.size w (W12x.setCell ⟨(W6.heap.size + 1 + 1), tj, none⟩ (.int .u8 bv)) ∧ (W6.heap.size + 1 + 1 + 1) < (W12x.setCell ⟨(W6.heap.size + 1 + 1), tj, none⟩ (.int .u8 bv)).heap.size ∧ (W12x.setCell ⟨(W6.heap.size + 1 + 1), tj, none⟩ (.int .u8 bv)).heap[W2.heap.size]? = some (.cells #[.slice sa 4 sc, .slice pa n pc, .int .i64 r, .bool false] 25 (0, 0)) ∧ (W12x.setCell ⟨(W6.heap.size + 1 + 1), tj, none⟩ (.int .u8 bv)).heap[W6.heap.size]? = some (.cells (bV L1) 44 (0, 0)) ∧ (W12x.setCell ⟨(W6.heap.size + 1 + 1), tj, none⟩ (.int .u8 bv)).heap[(W6.heap.size + 1)]? = some (.cells (bV (runF Wl F (j + 1))) 44 (0, 0)) ∧ (W12x.setCell ⟨(W6.heap.size + 1 + 1), tj, none⟩ (.int .u8 bv)).heap[(W6.heap.size + 1 + 1)]? = some (.cells (bV (runF Wl G (min (j + 1) r.toNat))) 44 (0, 0)) ∧ AsO (W12x.setCell ⟨(W6.heap.size + 1 + 1), tj, none⟩ (.int .u8 bv)) (W6.heap.size + 1 + 1 + 1) (.slice (some ⟨g, 0, none⟩) n gc) Wl ∧ SecsF (W12x.setCell ⟨(W6.heap.size + 1 + 1), tj, none⟩ (.int .u8 bv)) W2.heap.size (W6.heap.size + 1 + 1 + 1) (some ⟨b3, 0, none⟩) b3 0 4 TT ∧ SecsF (W12x.setCell ⟨(W6.heap.size + 1 + 1), tj, none⟩ (.int .u8 bv)) g (g + 1) (some ⟨b3, 0, none⟩) b3 0 4 TT ∧ (W12x.setCell ⟨(W6.heap.size + 1 + 1), tj, none⟩ (.int .u8 bv)).heap[xs]? = some (.cells #[.slice (some ⟨b3, 0, none⟩) 4 cap3, .slice none 0 0, .int .i64 G1, .bool false] 25 (0, 0)) from ⟨L2x.out.1.setCell (p := ⟨(W6.heap.size + 1 + 1), tj, none⟩) (by show w.heap.size ≤ (W6.heap.size + 1 + 1); have := HWp.out; omega) _, by simp only [World.size_setCell]; exact L2x.out.2.1, (Below.heap_setCell W12x ⟨(W6.heap.size + 1 + 1), tj, none⟩ (.int .u8 bv) W2.heap.size (by show W2.heap.size ≠ (W6.heap.size + 1 + 1); omega)).trans L2x.out.2.2.1, (Below.heap_setCell W12x ⟨(W6.heap.size + 1 + 1), tj, none⟩ (.int .u8 bv) W6.heap.size (by show W6.heap.size ≠ (W6.heap.size + 1 + 1); omega)).trans L2x.out.2.2.2.1, (Below.heap_setCell W12x ⟨(W6.heap.size + 1 + 1), tj, none⟩ (.int .u8 bv) (W6.heap.size + 1) (by show (W6.heap.size + 1) ≠ (W6.heap.size + 1 + 1); omega)).trans L2x.out.2.2.2.2.1, by have := cells_setU (i := tj) (v := .int .u8 bv) L2x.out.2.2.2.2.2.1; rw [bV_set] at this; rw [HJt.out.1, HJt.out.2.1] at this ⊢; rw [show min j r.toNat = j by omega] at this; rw [show min (j + 1) r.toNat = j + 1 by omega]; exact this, L2x.out.2.2.2.2.2.2.1.keep (fun q hq => Below.heap_setCell W12x ⟨(W6.heap.size + 1 + 1), tj, none⟩ (.int .u8 bv) q (by show q ≠ (W6.heap.size + 1 + 1); omega)), L2x.out.2.2.2.2.2.2.2.1.upd ((UpdR.refl W2.heap.size (W6.heap.size + 1 + 1 + 1) W12x).setCell (c := (W6.heap.size + 1 + 1)) (i := tj) (v := .int .u8 bv) (by omega) (by omega)), L2x.out.2.2.2.2.2.2.2.2.1.upd2 L2x.out.2.2.2.2.2.2.2.1 ((UpdR.refl W2.heap.size (W6.heap.size + 1 + 1 + 1) W12x).setCell (c := (W6.heap.size + 1 + 1)) (i := tj) (v := .int .u8 bv) (by omega) (by omega)), (Below.heap_setCell W12x ⟨(W6.heap.size + 1 + 1), tj, none⟩ (.int .u8 bv) xs (by show xs ≠ (W6.heap.size + 1 + 1); omega)).trans L2x.out.2.2.2.2.2.2.2.2.2⟩)
                have HJe := Lib.hid (show (W12x.setCell ⟨(W6.heap.size + 1 + 1), tj, none⟩ (.int .u8 bv)).cell? ⟨g, j * 3 + 1, none⟩ = some (.int .u8 av) ∧ (W12x.setCell ⟨(W6.heap.size + 1 + 1), tj, none⟩ (.int .u8 bv)).cell? ⟨g, j * 3 + 2, none⟩ = some (.int .u8 bv) from ⟨by unfold World.cell?; rw [Below.heap_setCell W12x ⟨(W6.heap.size + 1 + 1), tj, none⟩ _ g (by show g ≠ (W6.heap.size + 1 + 1); omega)]; exact HJd.out.1, by unfold World.cell?; rw [Below.heap_setCell W12x ⟨(W6.heap.size + 1 + 1), tj, none⟩ _ g (by show g ≠ (W6.heap.size + 1 + 1); omega)]; exact HJd.out.2⟩)
                refine hK' _ _ ⟨HJe.out.1, HJe.out.2⟩ ?_
                clear hK' K' c0 c1 HJd HJc L2 L2x
                have HJc := HJe
                clear HJe
                generalize (W12x.setCell ⟨(W6.heap.size + 1 + 1), tj, none⟩ (.int .u8 bv)) = W13 at *
                refine wpAnyH_done (by kernel_rfl) ?_ _
                refine NoPanic.normal ?_
                go_simp
                go_wp2_with fail
                go_roundw
                case rel => exact ⟨j + 1, HJt.out.2.2, by omega, by go_num, L3⟩
                case measure => have := HJt.out.2.2; simp [intOf]; omega
              · have L3 : Hid (Below w.heap.size w W12 ∧ (W6.heap.size + 1 + 1 + 1) < W12.heap.size ∧ W12.heap[W2.heap.size]? = some (.cells #[.slice sa 4 sc, .slice pa n pc, .int .i64 r, .bool false] 25 (0, 0)) ∧ W12.heap[W6.heap.size]? = some (.cells (bV L1) 44 (0, 0)) ∧ W12.heap[(W6.heap.size + 1)]? = some (.cells (bV (runF Wl F (j + 1))) 44 (0, 0)) ∧ W12.heap[(W6.heap.size + 1 + 1)]? = some (.cells (bV (runF Wl G (min (j + 1) r.toNat))) 44 (0, 0)) ∧ AsO W12 (W6.heap.size + 1 + 1 + 1) (.slice (some ⟨g, 0, none⟩) n gc) Wl ∧ SecsF W12 W2.heap.size (W6.heap.size + 1 + 1 + 1) (some ⟨b3, 0, none⟩) b3 0 4 TT ∧ SecsF W12 g (g + 1) (some ⟨b3, 0, none⟩) b3 0 4 TT ∧ W12.heap[xs]? = some (.cells #[.slice (some ⟨b3, 0, none⟩) 4 cap3, .slice none 0 0, .int .i64 G1, .bool false] 25 (0, 0))) := Lib.hid (by have := L2.out; rw [show min j r.toNat = min (j + 1) r.toNat by omega] at this; exact this)
                clear L2
                go_wp2_with fail
                go_roundw
                case rel => exact ⟨j + 1, HJt.out.2.2, by omega, by go_num, L3⟩
                case measure => have := HJt.out.2.2; simp [intOf]; omega
            · obtain rfl : n = j := by omega
              have j1 : ¬ (n : Int) < (n : Int) := by omega
              have e2 : IntKind.i64.wrap (r - (n : Int)) = G1 := (wrap_id (by omega)).trans HG1.out.symm
              have z0 := blk_cell L1'.out.2.2.2.2.2.2.2.2.2 0
              have z1 := blk_cell L1'.out.2.2.2.2.2.2.2.2.2 1
              have z2 := blk_cell L1'.out.2.2.2.2.2.2.2.2.2 2
              have z3 := blk_cell L1'.out.2.2.2.2.2.2.2.2.2 3
              have hxl := blk_lt L1'.out.2.2.2.2.2.2.2.2.2
              have hbl5 := blk_lt L1'.out.2.2.1
              go_upto_region 37 with fail
              have hmn : min n r.toNat = n := by omega
              have M1 := Lib.hid (show Below w.heap.size w (wr.alloc (.cells #[] 46)) ∧ (W6.heap.size + 1 + 1 + 1) < (wr.alloc (.cells #[] 46)).heap.size ∧ (wr.alloc (.cells #[] 46)).heap[W2.heap.size]? = some (.cells #[.slice sa 4 sc, .slice pa n pc, .int .i64 r, .bool false] 25 (0, 0)) ∧ (wr.alloc (.cells #[] 46)).heap[W6.heap.size]? = some (.cells (bV L1) 44 (0, 0)) ∧ (wr.alloc (.cells #[] 46)).heap[(W6.heap.size + 1)]? = some (.cells (bV (runF Wl F n)) 44 (0, 0)) ∧ (wr.alloc (.cells #[] 46)).heap[(W6.heap.size + 1 + 1)]? = some (.cells (bV (runF Wl G n)) 44 (0, 0)) ∧ AsO (wr.alloc (.cells #[] 46)) wr.heap.size (.slice (some ⟨wr.heap.size, 0, none⟩) 0 0) [] ∧ SecsF (wr.alloc (.cells #[] 46)) W2.heap.size (W6.heap.size + 1 + 1 + 1) (some ⟨b3, 0, none⟩) b3 0 4 TT ∧ SecsF (wr.alloc (.cells #[] 46)) wr.heap.size (wr.heap.size + 1) (some ⟨b3, 0, none⟩) b3 0 4 TT ∧ (wr.alloc (.cells #[] 46)).heap[xs]? = some (.cells #[.slice (some ⟨b3, 0, none⟩) 4 cap3, .slice none 0 0, .int .i64 G1, .bool false] 25 (0, 0)) from ⟨L1'.out.1.alloc L1'.out.1.size (.cells #[] 46), by have := L1'.out.2.1; simp; omega, blk_alloc L1'.out.2.2.1 (.cells #[] 46), blk_alloc L1'.out.2.2.2.1 (.cells #[] 46), blk_alloc L1'.out.2.2.2.2.1 (.cells #[] 46), by have := blk_alloc L1'.out.2.2.2.2.2.1 (.cells #[] 46); rw [hmn] at this; exact this, AsO.empty wr, L1'.out.2.2.2.2.2.2.2.1.below ((Below.refl wr.heap.size wr).alloc (Nat.le_refl _) (.cells #[] 46)) (Nat.le_refl _), L1'.out.2.2.2.2.2.2.2.1.s.f ((Below.refl wr.heap.size wr).alloc (Nat.le_refl _) (.cells #[] 46)) (Nat.le_refl _), blk_alloc L1'.out.2.2.2.2.2.2.2.2.2 (.cells #[] 46)⟩)
              have hgn := L1'.out.2.1
              obtain ⟨g9, hg9⟩ : ∃ g9, g9 = wr.heap.size := ⟨_, rfl⟩
              rw [← hg9] at M1 hgn ⊢
              clear hg9 z0 z1 z2 z3 hxl hbl5
              generalize (wr.alloc (.cells #[] 46)) = Wa at *
              have z0 := blk_cell M1.out.2.2.2.2.2.2.2.2.2 0
              have z1 := blk_cell M1.out.2.2.2.2.2.2.2.2.2 1
              have z2 := blk_cell M1.out.2.2.2.2.2.2.2.2.2 2
              have z3 := blk_cell M1.out.2.2.2.2.2.2.2.2.2 3
              have y0 := blk_cell M1.out.2.2.1 0
              have y1 := blk_cell M1.out.2.2.1 1
              have y2 := blk_cell M1.out.2.2.1 2
              have y3 := blk_cell M1.out.2.2.1 3
              have f0 := blk_free M1.out.2.2.1 0
              have f1 := blk_free M1.out.2.2.1 1
              have f2 := blk_free M1.out.2.2.1 2
              have f3 := blk_free M1.out.2.2.1 3
              go_upto_region 38 with fail
              have HBn := Lib.hid (show Below w.heap.size w ((((Wa.setCell ⟨W2.heap.size, 0, none⟩ (.slice (some ⟨b3, 0, none⟩) 4 cap3)).setCell ⟨W2.heap.size, 1, none⟩ (.slice none 0 0)).setCell ⟨W2.heap.size, 2, none⟩ (.int .i64 G1)).setCell ⟨W2.heap.size, 3, none⟩ (.bool false)) ∧ (W6.heap.size + 1 + 1 + 1) < ((((Wa.setCell ⟨W2.heap.size, 0, none⟩ (.slice (some ⟨b3, 0, none⟩) 4 cap3)).setCell ⟨W2.heap.size, 1, none⟩ (.slice none 0 0)).setCell ⟨W2.heap.size, 2, none⟩ (.int .i64 G1)).setCell ⟨W2.heap.size, 3, none⟩ (.bool false)).heap.size from ⟨cell4_below (u0 := (.slice (some ⟨b3, 0, none⟩) 4 cap3)) (u1 := (.slice none 0 0)) (u2 := (.int .i64 G1)) (u3 := (.bool false)) HWp.out.1 M1.out.1, by simp only [World.size_setCell]; exact M1.out.2.1⟩)
              have hcn := cont_h HE.out.1.1.s.len HD.out.2.2.2.2.2.2.2.2.2.1 HD.out.2.2.2.2.2.2.2.2.2.2 HE.out.2.2.1 HE.out.2.1 n (Nat.le_refl _)
              have hrn := sync_h HE.out.1.1.s.len HE.out.2.1 HE.out.2.2.2.1
              rw [← HTT.out] at hcn hrn
              have HVn : Hid (HInv W2.heap.size (W6.heap.size + 1 + 1 + 1) W2.heap.size W6.heap.size (W6.heap.size + 1) (W6.heap.size + 1 + 1) (.slice (some ⟨g9, 0, none⟩) 0 0) G1 (k + 1) ((((Wa.setCell ⟨W2.heap.size, 0, none⟩ (.slice (some ⟨b3, 0, none⟩) 4 cap3)).setCell ⟨W2.heap.size, 1, none⟩ (.slice none 0 0)).setCell ⟨W2.heap.size, 2, none⟩ (.int .i64 G1)).setCell ⟨W2.heap.size, 3, none⟩ (.bool false))) := Lib.hid ⟨0, g9, 0, [], TT, [], runF Wl F n, runF Wl G n, L1, some ⟨b3, 0, none⟩, b3, 0, cap3, none, 0, 0, rfl, Nat.le_of_lt hgn, (M1.out.2.2.2.2.2.2.1.mono (Nat.le_of_lt hgn)).keep (fun q hq => cell4_keep (u0 := (.slice (some ⟨b3, 0, none⟩) 4 cap3)) (u1 := (.slice none 0 0)) (u2 := (.int .i64 G1)) (u3 := (.bool false)) (by omega)), rfl, Nat.zero_le _, cell4_set (u0 := (.slice (some ⟨b3, 0, none⟩) 4 cap3)) (u1 := (.slice none 0 0)) (u2 := (.int .i64 G1)) (u3 := (.bool false)) M1.out.2.2.1, ⟨cell4_other (u0 := (.slice (some ⟨b3, 0, none⟩) 4 cap3)) (u1 := (.slice none 0 0)) (u2 := (.int .i64 G1)) (u3 := (.bool false)) M1.out.2.2.2.1 (by omega), cell4_other (u0 := (.slice (some ⟨b3, 0, none⟩) 4 cap3)) (u1 := (.slice none 0 0)) (u2 := (.int .i64 G1)) (u3 := (.bool false)) M1.out.2.2.2.2.1 (by omega), cell4_other (u0 := (.slice (some ⟨b3, 0, none⟩) 4 cap3)) (u1 := (.slice none 0 0)) (u2 := (.int .i64 G1)) (u3 := (.bool false)) M1.out.2.2.2.2.2.1 (by omega), HD.out.2.2.2.2.2.2.2.2.1, (runF_len _ _ _).trans HD.out.2.2.2.2.2.2.2.2.2.1, (runF_len _ _ _).trans HD.out.2.2.2.2.2.2.2.2.2.2⟩, ⟨M1.out.2.2.2.2.2.2.2.1.upd (UpdR.set4 (c := W2.heap.size) (u0 := (.slice (some ⟨b3, 0, none⟩) 4 cap3)) (u1 := (.slice none 0 0)) (u2 := (.int .i64 G1)) (u3 := (.bool false)) (Nat.le_refl _) (by omega)), M1.out.2.2.2.2.2.2.2.2.1.upd2 M1.out.2.2.2.2.2.2.2.1 (UpdR.set4 (c := W2.heap.size) (u0 := (.slice (some ⟨b3, 0, none⟩) 4 cap3)) (u1 := (.slice none 0 0)) (u2 := (.int .i64 G1)) (u3 := (.bool false)) (Nat.le_refl _) (by omega)), pensF_nil _ _ _ _, pensF_nil _ _ _ _, Nat.le_refl _, fun h => (by cases h)⟩, ⟨rfl, fun q hq => by omega⟩, hcn, hrn, fun q hq => by omega, by have := HG1.out; omega, by have := HG1.out; have := HE.out.2.2.2.2.2.2; omega⟩
              clear z0 z1 z2 z3 y0 y1 y2 y3 f0 f1 f2 f3 hcn hrn M1
              generalize ((((Wa.setCell ⟨W2.heap.size, 0, none⟩ (.slice (some ⟨b3, 0, none⟩) 4 cap3)).setCell ⟨W2.heap.size, 1, none⟩ (.slice none 0 0)).setCell ⟨W2.heap.size, 2, none⟩ (.int .i64 G1)).setCell ⟨W2.heap.size, 3, none⟩ (.bool false)) = wc at *
              have hG10 : 0 ≤ G1 ∧ G1 ≤ 255 := by have := HG1.out; have := HE.out.2.2.2.2.2.2; omega
              clear HE HD
              obtain ⟨n3, g3, gc3, Wl3, S3, P3, F3, G3, L3, sa3, sb3, so3, sc3, pa3, pb3, pc3, -, -, -, -, hn3, hd3, ⟨hl3, -, -, hL3, -, -⟩, ⟨hS3, -, hP3, -, -, -⟩, hPH3, hc3, hR3, -, hr03, hr13⟩ := HVn.out
              obtain ⟨m0, m1, m2, m3, rfl⟩ : ∃ m0 m1 m2 m3, L3 = [m0, m1, m2, m3] := by
                match L3, hL3 with
                | [a, b, c, d], _ => exact ⟨a, b, c, d, rfl⟩
              have hl4 : wc.heap[W6.heap.size]? = some (.cells #[.int .u8 m0, .int .u8 m1, .int .u8 m2, .int .u8 m3] 44 (0, 0)) := hl3
              have hv3 := valid_h (lf := G1) hS3.s.len hc3 hPH3 (by omega) (by omega) (by omega)
              have H38 := Lib.hid (show _ ∧ _ ∧ _ ∧ _ from ⟨hS3.s, hP3.s, hv3, hR3⟩)
              have x0 := blk_cell hd3 0
              have x1 := blk_cell hd3 1
              have x2 := blk_cell hd3 2
              have x3 := blk_cell hd3 3
              have y0 := blk_cell hl4 0
              have y1 := blk_cell hl4 1
              have y2 := blk_cell hl4 2
              have y3 := blk_cell hl4 3
              clear hl3 hl4 hS3 hP3 hPH3 hc3 hR3 hv3 hd3 hL3
              go_wp2_with fail
              clear x0 x1 x2 x3 y0 y1 y2 y3
              refine (holds_any S3 P3 G1 sa3 sb3 so3 sc3 pa3 pb3 0 n3 pc3 [m0, m1, m2, m3] [m0, m1, m2, m3] wc H38.out.1 H38.out.2.1 (by omega) rfl rfl (runB_t H38.out.2.2.1 rfl) H38.out.2.2.2).mono ?_
              rintro e Wh ⟨rfl, hbh⟩
              have HBm := Lib.hid (show Below w.heap.size w Wh ∧ (W6.heap.size + 1 + 1 + 1) < Wh.heap.size from ⟨below_after HBn.out.1 hbh HBn.out.1.size, by have := hbh.size; have := HBn.out.2; omega⟩)
              have HVm := Lib.hid (HVn.out.below hbh)
              clear hbh
              go_wp2_with fail
              go_roundw
              case rel => exact ⟨k + 1, G1, by omega, by go_num, rfl, HBm, HVm⟩
              case measure => simp [intOf]; omega
        · refine (sync_any S P r false sa sb so 4 sc pa pb 0 n pc wq HE.out.1.1.s HE.out.1.2.2.1.s (by omega) (by have := HD.out.2.2.2.1; omega) HE.out.1.2.2.2.2.1 HE.out.1.2.2.2.2.2).mono ?_
          rintro e W8 ⟨hp, hb⟩
          obtain ⟨b3, cap3, Y3, hcap3, hB3, hYg3, hY3, hS3, rfl⟩ := hp.torn (runB_t HVd.out rfl) HE.out.2.2.2.2.2.1 (by omega)
          obtain ⟨TT, hTT⟩ : ∃ TT, TT = (perfK S P r.toNat).set (nW P r.toNat).1.toNat Y3 := ⟨_, rfl⟩
          have hT1 := secsF_torn HE.out.1.1 HE.out.1.2.2.1 (k := r.toNat) (by omega) hb (by have := HBq.out.2.1; omega) hB3 hYg3 hS3
          have hT2 := secsF_torn HE.out.1.2.1 HE.out.1.2.2.2.1 (k := r.toNat) (by omega) hb hgw1 hB3 hYg3 hS3
          rw [← hTT] at hT1 hT2
          go_upto_region 24 with fail
          have hxs0 : (W6.heap.size + 1 + 1 + 1) < W8.heap.size ∧ g < W8.heap.size := by have := hb.size; have := HBq.out.2.1; omega
          have L0 := Lib.hid (show Below w.heap.size w (W8.alloc (.cells #[.slice (some ⟨b3, 0, none⟩) 4 cap3, .slice none 0 0, .int .i64 0, .bool true] 25)) ∧ (W6.heap.size + 1 + 1 + 1) < (W8.alloc (.cells #[.slice (some ⟨b3, 0, none⟩) 4 cap3, .slice none 0 0, .int .i64 0, .bool true] 25)).heap.size ∧ (W8.alloc (.cells #[.slice (some ⟨b3, 0, none⟩) 4 cap3, .slice none 0 0, .int .i64 0, .bool true] 25)).heap[W2.heap.size]? = some (.cells #[.slice sa 4 sc, .slice pa n pc, .int .i64 r, .bool false] 25 (0, 0)) ∧ (W8.alloc (.cells #[.slice (some ⟨b3, 0, none⟩) 4 cap3, .slice none 0 0, .int .i64 0, .bool true] 25)).heap[W6.heap.size]? = some (.cells (bV L1) 44 (0, 0)) ∧ (W8.alloc (.cells #[.slice (some ⟨b3, 0, none⟩) 4 cap3, .slice none 0 0, .int .i64 0, .bool true] 25)).heap[(W6.heap.size + 1)]? = some (.cells (bV (runF Wl F 0)) 44 (0, 0)) ∧ (W8.alloc (.cells #[.slice (some ⟨b3, 0, none⟩) 4 cap3, .slice none 0 0, .int .i64 0, .bool true] 25)).heap[(W6.heap.size + 1 + 1)]? = some (.cells (bV (runF Wl G (min 0 r.toNat))) 44 (0, 0)) ∧ AsO (W8.alloc (.cells #[.slice (some ⟨b3, 0, none⟩) 4 cap3, .slice none 0 0, .int .i64 0, .bool true] 25)) (W6.heap.size + 1 + 1 + 1) (.slice (some ⟨g, 0, none⟩) n gc) Wl ∧ SecsF (W8.alloc (.cells #[.slice (some ⟨b3, 0, none⟩) 4 cap3, .slice none 0 0, .int .i64 0, .bool true] 25)) W2.heap.size (W6.heap.size + 1 + 1 + 1) (some ⟨b3, 0, none⟩) b3 0 4 TT ∧ SecsF (W8.alloc (.cells #[.slice (some ⟨b3, 0, none⟩) 4 cap3, .slice none 0 0, .int .i64 0, .bool true] 25)) g (g + 1) (some ⟨b3, 0, none⟩) b3 0 4 TT ∧ (W8.alloc (.cells #[.slice (some ⟨b3, 0, none⟩) 4 cap3, .slice none 0 0, .int .i64 0, .bool true] 25)).heap[W8.heap.size]? = some (.cells #[.slice (some ⟨b3, 0, none⟩) 4 cap3, .slice none 0 0, .int .i64 0, .bool true] 25 (0, 0)) from ⟨(below_after HBq.out.1 hb HBq.out.1.size).alloc (below_after HBq.out.1 hb HBq.out.1.size).size (.cells #[.slice (some ⟨b3, 0, none⟩) 4 cap3, .slice none 0 0, .int .i64 0, .bool true] 25), by have := hb.size; have := HBq.out.2.1; simp; omega, blk_alloc (blk_below HD.out.2.2.2.2.1 hb (blk_lt HD.out.2.2.2.2.1)) (.cells #[.slice (some ⟨b3, 0, none⟩) 4 cap3, .slice none 0 0, .int .i64 0, .bool true] 25), blk_alloc (blk_below HD.out.2.2.2.2.2.1 hb (blk_lt HD.out.2.2.2.2.2.1)) (.cells #[.slice (some ⟨b3, 0, none⟩) 4 cap3, .slice none 0 0, .int .i64 0, .bool true] 25), blk_alloc (blk_below HD.out.2.2.2.2.2.2.1 hb (blk_lt HD.out.2.2.2.2.2.2.1)) (.cells #[.slice (some ⟨b3, 0, none⟩) 4 cap3, .slice none 0 0, .int .i64 0, .bool true] 25), by rw [Nat.zero_min]; exact blk_alloc (blk_below HD.out.2.2.2.2.2.2.2.1 hb (blk_lt HD.out.2.2.2.2.2.2.2.1)) (.cells #[.slice (some ⟨b3, 0, none⟩) 4 cap3, .slice none 0 0, .int .i64 0, .bool true] 25), (HD.out.2.1.below hb (Nat.le_refl _)).alloc (.cells #[.slice (some ⟨b3, 0, none⟩) 4 cap3, .slice none 0 0, .int .i64 0, .bool true] 25), hT1.below ((Below.refl W8.heap.size W8).alloc (Nat.le_refl _) (.cells #[.slice (some ⟨b3, 0, none⟩) 4 cap3, .slice none 0 0, .int .i64 0, .bool true] 25)) (Nat.le_refl _), hT2.below ((Below.refl W8.heap.size W8).alloc (Nat.le_refl _) (.cells #[.slice (some ⟨b3, 0, none⟩) 4 cap3, .slice none 0 0, .int .i64 0, .bool true] 25)) (Nat.le_refl _), blk_new W8 (.cells #[.slice (some ⟨b3, 0, none⟩) 4 cap3, .slice none 0 0, .int .i64 0, .bool true] 25)⟩)
          obtain ⟨xs, hxs⟩ : ∃ xs, xs = W8.heap.size := ⟨_, rfl⟩
          rw [← hxs] at L0 hxs0 ⊢
          generalize W8.alloc (.cells #[.slice (some ⟨b3, 0, none⟩) 4 cap3, .slice none 0 0, .int .i64 0, .bool true] 25) = W9 at *
          have HTT := Lib.hid hTT
          have HY3 := Lib.hid hY3
          clear hY3
          clear hT1 hT2 hTT hS3 hb hB3 hp hxs
          have hgHI := HD.out.1
          have hlo := HWp.out.2
          have hr0 := HE.out.2.2.2.2.2.1
          go_wp2_with fail
          go_loopw [20] (fun v wr => ∃ j : Nat, j ≤ n ∧ (j : Int) ≤ r + 1 ∧ v = .int .i64 j ∧ Hid (Below w.heap.size w wr ∧ (W6.heap.size + 1 + 1 + 1) < wr.heap.size ∧ wr.heap[W2.heap.size]? = some (.cells #[.slice sa 4 sc, .slice pa n pc, .int .i64 r, .bool false] 25 (0, 0)) ∧ wr.heap[W6.heap.size]? = some (.cells (bV L1) 44 (0, 0)) ∧ wr.heap[(W6.heap.size + 1)]? = some (.cells (bV (runF Wl F j)) 44 (0, 0)) ∧ wr.heap[(W6.heap.size + 1 + 1)]? = some (.cells (bV (runF Wl G (min j r.toNat))) 44 (0, 0)) ∧ AsO wr (W6.heap.size + 1 + 1 + 1) (.slice (some ⟨g, 0, none⟩) n gc) Wl ∧ SecsF wr W2.heap.size (W6.heap.size + 1 + 1 + 1) (some ⟨b3, 0, none⟩) b3 0 4 TT ∧ SecsF wr g (g + 1) (some ⟨b3, 0, none⟩) b3 0 4 TT ∧ wr.heap[xs]? = some (.cells #[.slice (some ⟨b3, 0, none⟩) 4 cap3, .slice none 0 0, .int .i64 0, .bool true] 25 (0, 0)))) (fun v _ => n - (intOf v).toNat)
          case atStart => exact ⟨0, Nat.zero_le _, by omega, rfl, L0⟩
          case round =>
            obtain ⟨j, hjn, hjr, rfl, L1'⟩ := hrel
            by_cases hgo : j < n ∧ (j : Int) ≤ r
            · obtain ⟨hj1, hj2⟩ := hgo
              have j1 : (j : Int) < (n : Int) := by omega
              have j2 : ¬ (j : Int) < 0 := by omega
              have u1 : IntKind.i64.wrap ((j : Int) + 1) = ((j + 1 : Nat) : Int) := (wrap_id (by have := HD.out.2.2.2.1; omega)).trans (by omega)
              obtain ⟨-, e1, e2⟩ := encLA_get Wl j (by have := HD.out.2.2.1; omega)
              have c1 := (L1'.out.2.2.2.2.2.2.1.cellAt HD.out.2.2.1 (j * 3 + 1) (by omega)).trans e1
              have c2 := (L1'.out.2.2.2.2.2.2.1.cellAt HD.out.2.2.1 (j * 3 + 2) (by omega)).trans e2
              have hwj := HE.out.2.2.2.2.1 j hj1
              have hlt := atA_lt (l := Wl) (n := 4) (k := j) (by omega)
              have hai := atA_int (l := Wl) (n := 4) (k := j) (by omega)
              obtain ⟨tj, htj⟩ : ∃ tj, tj = atA Wl 4 j := ⟨_, rfl⟩
              obtain ⟨av, hav⟩ : ∃ av, av = (nthA Wl j).2.1 := ⟨_, rfl⟩
              obtain ⟨bv, hbv⟩ : ∃ bv, bv = (nthA Wl j).2.2 := ⟨_, rfl⟩
              rw [← hav] at c1 hai
              rw [← hbv] at c2
              rw [← htj] at hlt hai
              have havb : 0 ≤ av ∧ av ≤ 255 := by rw [hav]; exact hwj.1
              have m2 : av % 4 = (tj : Int) := hai
              have m1 : av.tmod 4 = (tj : Int) := by rw [Int.tmod_eq_emod_of_nonneg havb.1]; exact hai
              have u2 : IntKind.u8.wrap (tj : Int) = (tj : Int) := by rw [IntKind.wrap_u8]; omega
              have i4 : (tj : Int) < 4 := by omega
              have i5 : ¬ (tj : Int) < 0 := by omega
              have hFl := HD.out.2.2.2.2.2.2.2.2.2.1
              have hGl := HD.out.2.2.2.2.2.2.2.2.2.2
              have HJc := Lib.hid (And.intro c1 c2)
              have HJt := Lib.hid (show tj = atA Wl 4 j ∧ bv = byA Wl j ∧ j < n from ⟨htj, hbv, hj1⟩)
              clear c1 c2 e1 e2 hwj hai htj hav hbv hj1 hjn
              go_upto_region 28 with fail
              refine wp_region_from 0 12 (fun w' => w'.cell? ⟨g, j * 3 + 1, none⟩ = some (.int .u8 av) ∧ w'.cell? ⟨g, j * 3 + 2, none⟩ = some (.int .u8 bv)) (by kernel_rfl) (by kernel_rfl) (by decide) (by kernel_rfl) (⟨HJc.out.1, HJc.out.2⟩) ?_
              simp only [List.drop_zero, List.take_succ_cons, List.take_zero]
              refine wpHeld_cons (.slice (some ⟨g, 0, none⟩) n gc) (by kernel_rfl) ?_ ?_
              · rintro w' ⟨s1, s2⟩
                try go_simp
              refine wpHeld_cons (.int .i64 (j : Int)) (by kernel_rfl) ?_ ?_
              · rintro w' ⟨s1, s2⟩
                try go_simp
              refine wpHeld_cons (.pointer (some ⟨g, j * 3, none⟩)) (by kernel_rfl) ?_ ?_
              · rintro w' ⟨s1, s2⟩
                try go_simp
              refine wpHeld_cons (.pointer (some ⟨g, j * 3 + 1, none⟩)) (by kernel_rfl) ?_ ?_
              · rintro w' ⟨s1, s2⟩
                try go_simp
              refine wpHeld_cons (.int .u8 av) (by kernel_rfl) ?_ ?_
              · rintro w' ⟨s1, s2⟩
                try go_simp
              refine wpHeld_cons (.int .u8 (tj : Int)) (by kernel_rfl) ?_ ?_
              · rintro w' ⟨s1, s2⟩
                try go_simp
              refine wpHeld_cons (.slice (some ⟨g, 0, none⟩) n gc) (by kernel_rfl) ?_ ?_
              · rintro w' ⟨s1, s2⟩
                try go_simp
              refine wpHeld_cons (.int .i64 (j : Int)) (by kernel_rfl) ?_ ?_
              · rintro w' ⟨s1, s2⟩
                try go_simp
              refine wpHeld_cons (.pointer (some ⟨g, j * 3, none⟩)) (by kernel_rfl) ?_ ?_
              · rintro w' ⟨s1, s2⟩
                try go_simp
              refine wpHeld_cons (.pointer (some ⟨g, j * 3 + 2, none⟩)) (by kernel_rfl) ?_ ?_
              · rintro w' ⟨s1, s2⟩
                try go_simp
              refine wpHeld_cons (.int .u8 bv) (by kernel_rfl) ?_ ?_
              · rintro w' ⟨s1, s2⟩
                try go_simp
              refine wpHeld_cons (.pointer (some ⟨(W6.heap.size + 1), tj, none⟩)) (by kernel_rfl) ?_ ?_
              · rintro w' ⟨s1, s2⟩
                try go_simp
              refine wpHeld_nil ?_
              go_simp
              refine wpAnyH_one (i := 12) (by kernel_rfl) rfl (by kernel_rfl) (fun K' hK' => ?_)
              have L1'x := Lib.hid (show Below w.heap.size w wr.drew ∧ (W6.heap.size + 1 + 1 + 1) < wr.drew.heap.size ∧ wr.drew.heap[W2.heap.size]? = some (.cells #[.slice sa 4 sc, .slice pa n pc, .int .i64 r, .bool false] 25 (0, 0)) ∧ wr.drew.heap[W6.heap.size]? = some (.cells (bV L1) 44 (0, 0)) ∧ wr.drew.heap[(W6.heap.size + 1)]? = some (.cells (bV (runF Wl F j)) 44 (0, 0)) ∧ wr.drew.heap[(W6.heap.size + 1 + 1)]? = some (.cells (bV (runF Wl G (min j r.toNat))) 44 (0, 0)) ∧ AsO wr.drew (W6.heap.size + 1 + 1 + 1) (.slice (some ⟨g, 0, none⟩) n gc) Wl ∧ SecsF wr.drew W2.heap.size (W6.heap.size + 1 + 1 + 1) (some ⟨b3, 0, none⟩) b3 0 4 TT ∧ SecsF wr.drew g (g + 1) (some ⟨b3, 0, none⟩) b3 0 4 TT ∧ wr.drew.heap[xs]? = some (.cells #[.slice (some ⟨b3, 0, none⟩) 4 cap3, .slice none 0 0, .int .i64 0, .bool true] 25 (0, 0)) from ⟨L1'.out.1.drew, L1'.out.2.1, blk_drew L1'.out.2.2.1, blk_drew L1'.out.2.2.2.1, blk_drew L1'.out.2.2.2.2.1, blk_drew L1'.out.2.2.2.2.2.1, L1'.out.2.2.2.2.2.2.1.below ((Below.refl wr.heap.size wr).drew) (Nat.le_refl _), L1'.out.2.2.2.2.2.2.2.1.below ((Below.refl wr.heap.size wr).drew) (Nat.le_refl _), L1'.out.2.2.2.2.2.2.2.2.1.below ((Below.refl wr.heap.size wr).drew) (Nat.le_refl _), blk_drew L1'.out.2.2.2.2.2.2.2.2.2⟩)
              have HJd := Lib.hid (show wr.drew.cell? ⟨g, j * 3 + 1, none⟩ = some (.int .u8 av) ∧ wr.drew.cell? ⟨g, j * 3 + 2, none⟩ = some (.int .u8 bv) from HJc.out)
              generalize wr.drew = wrx at *
              have c0 := (blk_cell L1'x.out.2.2.2.2.1 tj).trans (bV_get (by rw [runF_len]; omega))
              have c1 := blk_free L1'x.out.2.2.2.2.1 tj
              go_simp
              have L2 := Lib.hid (show Below w.heap.size w (wrx.setCell ⟨(W6.heap.size + 1), tj, none⟩ (.int .u8 bv)) ∧ (W6.heap.size + 1 + 1 + 1) < (wrx.setCell ⟨(W6.heap.size + 1), tj, none⟩ (.int .u8 bv)).heap.size ∧ (wrx.setCell ⟨(W6.heap.size + 1), tj, none⟩ (.int .u8 bv)).heap[W2.heap.size]? = some (.cells #[.slice sa 4 sc, .slice pa n pc, .int .i64 r, .bool false] 25 (0, 0)) ∧ (wrx.setCell ⟨(W6.heap.size + 1), tj, none⟩ (.int .u8 bv)).heap[W6.heap.size]? = some (.cells (bV L1) 44 (0, 0)) ∧ (wrx.setCell ⟨(W6.heap.size + 1), tj, none⟩ (.int .u8 bv)).heap[(W6.heap.size + 1)]? = some (.cells (bV (runF Wl F (j + 1))) 44 (0, 0)) ∧ (wrx.setCell ⟨(W6.heap.size + 1), tj, none⟩ (.int .u8 bv)).heap[(W6.heap.size + 1 + 1)]? = some (.cells (bV (runF Wl G (min j r.toNat))) 44 (0, 0)) ∧ AsO (wrx.setCell ⟨(W6.heap.size + 1), tj, none⟩ (.int .u8 bv)) (W6.heap.size + 1 + 1 + 1) (.slice (some ⟨g, 0, none⟩) n gc) Wl ∧ SecsF (wrx.setCell ⟨(W6.heap.size + 1), tj, none⟩ (.int .u8 bv)) W2.heap.size (W6.heap.size + 1 + 1 + 1) (some ⟨b3, 0, none⟩) b3 0 4 TT ∧ SecsF (wrx.setCell ⟨(W6.heap.size + 1), tj, none⟩ (.int .u8 bv)) g (g + 1) (some ⟨b3, 0, none⟩) b3 0 4 TT ∧ (wrx.setCell ⟨(W6.heap.size + 1), tj, none⟩ (.int .u8 bv)).heap[xs]? = some (.cells #[.slice (some ⟨b3, 0, none⟩) 4 cap3, .slice none 0 0, .int .i64 0, .bool true] 25 (0, 0)) from ⟨L1'x.out.1.setCell (p := ⟨(W6.heap.size + 1), tj, none⟩) (by show w.heap.size ≤ (W6.heap.size + 1); have := HWp.out; omega) _, by simp only [World.size_setCell]; exact L1'x.out.2.1, (Below.heap_setCell wrx ⟨(W6.heap.size + 1), tj, none⟩ (.int .u8 bv) W2.heap.size (by show W2.heap.size ≠ (W6.heap.size + 1); omega)).trans L1'x.out.2.2.1, (Below.heap_setCell wrx ⟨(W6.heap.size + 1), tj, none⟩ (.int .u8 bv) W6.heap.size (by show W6.heap.size ≠ (W6.heap.size + 1); omega)).trans L1'x.out.2.2.2.1, by have := cells_setU (i := tj) (v := .int .u8 bv) L1'x.out.2.2.2.2.1; rw [bV_set] at this; rw [HJt.out.1, HJt.out.2.1] at this ⊢; exact this, (Below.heap_setCell wrx ⟨(W6.heap.size + 1), tj, none⟩ (.int .u8 bv) (W6.heap.size + 1 + 1) (by show (W6.heap.size + 1 + 1) ≠ (W6.heap.size + 1); omega)).trans L1'x.out.2.2.2.2.2.1, L1'x.out.2.2.2.2.2.2.1.keep (fun q hq => Below.heap_setCell wrx ⟨(W6.heap.size + 1), tj, none⟩ (.int .u8 bv) q (by show q ≠ (W6.heap.size + 1); omega)), L1'x.out.2.2.2.2.2.2.2.1.upd ((UpdR.refl W2.heap.size (W6.heap.size + 1 + 1 + 1) wrx).setCell (c := (W6.heap.size + 1)) (i := tj) (v := .int .u8 bv) (by omega) (by omega)), L1'x.out.2.2.2.2.2.2.2.2.1.upd2 L1'x.out.2.2.2.2.2.2.2.1 ((UpdR.refl W2.heap.size (W6.heap.size + 1 + 1 + 1) wrx).setCell (c := (W6.heap.size + 1)) (i := tj) (v := .int .u8 bv) (by omega) (by omega)), (Below.heap_setCell wrx ⟨(W6.heap.size + 1), tj, none⟩ (.int .u8 bv) xs (by show xs ≠ (W6.heap.size + 1); omega)).trans L1'x.out.2.2.2.2.2.2.2.2.2⟩)
              have HJe := Lib.hid (show (wrx.setCell ⟨(W6.heap.size + 1), tj, none⟩ (.int .u8 bv)).cell? ⟨g, j * 3 + 1, none⟩ = some (.int .u8 av) ∧ (wrx.setCell ⟨(W6.heap.size + 1), tj, none⟩ (.int .u8 bv)).cell? ⟨g, j * 3 + 2, none⟩ = some (.int .u8 bv) from ⟨by unfold World.cell?; rw [Below.heap_setCell wrx ⟨(W6.heap.size + 1), tj, none⟩ _ g (by show g ≠ (W6.heap.size + 1); omega)]; exact HJd.out.1, by unfold World.cell?; rw [Below.heap_setCell wrx ⟨(W6.heap.size + 1), tj, none⟩ _ g (by show g ≠ (W6.heap.size + 1); omega)]; exact HJd.out.2⟩)
              refine hK' _ _ ⟨HJe.out.1, HJe.out.2⟩ ?_
              clear hK' K' c0 c1 HJd HJc L1' L1'x
              have HJc := HJe
              clear HJe
              generalize (wrx.setCell ⟨(W6.heap.size + 1), tj, none⟩ (.int .u8 bv)) = W12 at *
              refine wpAnyH_done (by kernel_rfl) ?_ _
              refine NoPanic.normal ?_
              go_simp
              by_cases hlr : (j : Int) < r
              · go_upto_region 30 with fail
                refine wp_region_from 0 12 (fun w' => w'.cell? ⟨g, j * 3 + 1, none⟩ = some (.int .u8 av) ∧ w'.cell? ⟨g, j * 3 + 2, none⟩ = some (.int .u8 bv)) (by kernel_rfl) (by kernel_rfl) (by decide) (by kernel_rfl) (⟨HJc.out.1, HJc.out.2⟩) ?_
                simp only [List.drop_zero, List.take_succ_cons, List.take_zero]
                refine wpHeld_cons (.slice (some ⟨g, 0, none⟩) n gc) (by kernel_rfl) ?_ ?_
                · rintro w' ⟨s1, s2⟩
                  try go_simp
                refine wpHeld_cons (.int .i64 (j : Int)) (by kernel_rfl) ?_ ?_
                · rintro w' ⟨s1, s2⟩
                  try go_simp
                refine wpHeld_cons (.pointer (some ⟨g, j * 3, none⟩)) (by kernel_rfl) ?_ ?_
                · rintro w' ⟨s1, s2⟩
                  try go_simp
                refine wpHeld_cons (.pointer (some ⟨g, j * 3 + 1, none⟩)) (by kernel_rfl) ?_ ?_
                · rintro w' ⟨s1, s2⟩
                  try go_simp
                refine wpHeld_cons (.int .u8 av) (by kernel_rfl) ?_ ?_
                · rintro w' ⟨s1, s2⟩
                  try go_simp
                refine wpHeld_cons (.int .u8 (tj : Int)) (by kernel_rfl) ?_ ?_
                · rintro w' ⟨s1, s2⟩
                  try go_simp
                refine wpHeld_cons (.slice (some ⟨g, 0, none⟩) n gc) (by kernel_rfl) ?_ ?_
                · rintro w' ⟨s1, s2⟩
                  try go_simp
                refine wpHeld_cons (.int .i64 (j : Int)) (by kernel_rfl) ?_ ?_
                · rintro w' ⟨s1, s2⟩
                  try go_simp
                refine wpHeld_cons (.pointer (some ⟨g, j * 3, none⟩)) (by kernel_rfl) ?_ ?_
                · rintro w' ⟨s1, s2⟩
                  try go_simp
                refine wpHeld_cons (.pointer (some ⟨g, j * 3 + 2, none⟩)) (by kernel_rfl) ?_ ?_
                · rintro w' ⟨s1, s2⟩
                  try go_simp
                refine wpHeld_cons (.int .u8 bv) (by kernel_rfl) ?_ ?_
                · rintro w' ⟨s1, s2⟩
                  try go_simp
                refine wpHeld_cons (.pointer (some ⟨(W6.heap.size + 1 + 1), tj, none⟩)) (by kernel_rfl) ?_ ?_
                · rintro w' ⟨s1, s2⟩
                  try go_simp
                refine wpHeld_nil ?_
                go_simp
                refine wpAnyH_one (i := 12) (by kernel_rfl) rfl (by kernel_rfl) (fun K' hK' => ?_)
                have L2x := Lib.hid (show Below w.heap.size w W12.drew ∧ (W6.heap.size + 1 + 1 + 1) < W12.drew.heap.size ∧ W12.drew.heap[W2.heap.size]? = some (.cells #[.slice sa 4 sc, .slice pa n pc, .int .i64 r, .bool false] 25 (0, 0)) ∧ W12.drew.heap[W6.heap.size]? = some (.cells (bV L1) 44 (0, 0)) ∧ W12.drew.heap[(W6.heap.size + 1)]? = some (.cells (bV (runF Wl F (j + 1))) 44 (0, 0)) ∧ W12.drew.heap[(W6.heap.size + 1 + 1)]? = some (.cells (bV (runF Wl G (min j r.toNat))) 44 (0, 0)) ∧ AsO W12.drew (W6.heap.size + 1 + 1 + 1) (.slice (some ⟨g, 0, none⟩) n gc) Wl ∧ SecsF W12.drew W2.heap.size (W6.heap.size + 1 + 1 + 1) (some ⟨b3, 0, none⟩) b3 0 4 TT ∧ SecsF W12.drew g (g + 1) (some ⟨b3, 0, none⟩) b3 0 4 TT ∧ W12.drew.heap[xs]? = some (.cells #[.slice (some ⟨b3, 0, none⟩) 4 cap3, .slice none 0 0, .int .i64 0, .bool true] 25 (0, 0)) from ⟨L2.out.1.drew, L2.out.2.1, blk_drew L2.out.2.2.1, blk_drew L2.out.2.2.2.1, blk_drew L2.out.2.2.2.2.1, blk_drew L2.out.2.2.2.2.2.1, L2.out.2.2.2.2.2.2.1.below ((Below.refl W12.heap.size W12).drew) (Nat.le_refl _), L2.out.2.2.2.2.2.2.2.1.below ((Below.refl W12.heap.size W12).drew) (Nat.le_refl _), L2.out.2.2.2.2.2.2.2.2.1.below ((Below.refl W12.heap.size W12).drew) (Nat.le_refl _), blk_drew L2.out.2.2.2.2.2.2.2.2.2⟩)
                have HJd := Lib.hid (show W12.drew.cell? ⟨g, j * 3 + 1, none⟩ = some (.int .u8 av) ∧ W12.drew.cell? ⟨g, j * 3 + 2, none⟩ = some (.int .u8 bv) from HJc.out)
                generalize W12.drew = W12x at *
                have c0 := (blk_cell L2x.out.2.2.2.2.2.1 tj).trans (bV_get (by rw [runF_len]; omega))
                have c1 := blk_free L2x.out.2.2.2.2.2.1 tj
                go_simp
                have L3 := Lib.hid (show Below w.heap.size w (W12x.setCell ⟨(W6.heap.size + 1 + 1), tj, none⟩ (.int .u8 bv)) ∧ (W6.heap.size + 1 + 1 + 1) < (W12x.setCell ⟨(W6.heap.size + 1 + 1), tj, none⟩ (.int .u8 bv)).heap.size ∧ (W12x.setCell ⟨(W6.heap.size + 1 + 1), tj, none⟩ (.int .u8 bv)).heap[W2.heap.size]? = some (.cells #[.slice sa 4 sc, .slice pa n pc, .int .i64 r, .bool false] 25 (0, 0)) ∧ (W12x.setCell ⟨(W6.heap.size + 1 + 1), tj, none⟩ (.int .u8 bv)).heap[W6.heap.size]? = some (.cells (bV L1) 44 (0, 0)) ∧ (W12x.setCell ⟨(W6.heap.size + 1 + 1), tj, none⟩ (.int .u8 bv)).heap[(W6.heap.size + 1)]? = some (.cells (bV (runF Wl F (j + 1))) 44 (0, 0)) ∧ (W12x.setCell ⟨(W6.heap.size + 1 + 1), tj, none⟩ (.int .u8 bv)).heap[(W6.heap.size + 1 + 1)]? = some (.cells (bV (runF Wl G (min (j + 1) r.toNat))) 44 (0, 0)) ∧ AsO (W12x.setCell ⟨(W6.heap.size + 1 + 1), tj, none⟩ (.int .u8 bv)) (W6.heap.size + 1 + 1 + 1) (.slice (some ⟨g, 0, none⟩) n gc) Wl ∧ SecsF (W12x.setCell ⟨(W6.heap.size + 1 + 1), tj, none⟩ (.int .u8 bv)) W2.heap.size (W6.heap.size + 1 + 1 + 1) (some ⟨b3, 0, none⟩) b3 0 4 TT ∧ SecsF (W12x.setCell ⟨(W6.heap.size + 1 + 1), tj, none⟩ (.int .u8 bv)) g (g + 1) (some ⟨b3, 0, none⟩) b3 0 4 TT ∧ (W12x.setCell ⟨(W6.heap.size + 1 + 1), tj, none⟩ (.int .u8 bv)).heap[xs]? = some (.cells #[.slice (some ⟨b3, 0, none⟩) 4 cap3, .slice none 0 0, .int .i64 0, .bool true] 25 (0, 0)) from ⟨L2x.out.1.setCell (p := ⟨(W6.heap.size + 1 + 1), tj, none⟩) (by show w.heap.size ≤ (W6.heap.size + 1 + 1); have := HWp.out; omega) _, by simp only [World.size_setCell]; exact L2x.out.2.1, (Below.heap_setCell W12x ⟨(W6.heap.size + 1 + 1), tj, none⟩ (.int .u8 bv) W2.heap.size (by show W2.heap.size ≠ (W6.heap.size + 1 + 1); omega)).trans L2x.out.2.2.1, (Below.heap_setCell W12x ⟨(W6.heap.size + 1 + 1), tj, none⟩ (.int .u8 bv) W6.heap.size (by show W6.heap.size ≠ (W6.heap.size + 1 + 1); omega)).trans L2x.out.2.2.2.1, (Below.heap_setCell W12x ⟨(W6.heap.size + 1 + 1), tj, none⟩ (.int .u8 bv) (W6.heap.size + 1) (by show (W6.heap.size + 1) ≠ (W6.heap.size + 1 + 1); omega)).trans L2x.out.2.2.2.2.1, by have := cells_setU (i := tj) (v := .int .u8 bv) L2x.out.2.2.2.2.2.1; rw [bV_set] at this; rw [HJt.out.1, HJt.out.2.1] at this ⊢; rw [show min j r.toNat = j by omega] at this; rw [show min (j + 1) r.toNat = j + 1 by omega]; exact this, L2x.out.2.2.2.2.2.2.1.keep (fun q hq => Below.heap_setCell W12x ⟨(W6.heap.size + 1 + 1), tj, none⟩ (.int .u8 bv) q (by show q ≠ (W6.heap.size + 1 + 1); omega)), L2x.out.2.2.2.2.2.2.2.1.upd ((UpdR.refl W2.heap.size (W6.heap.size + 1 + 1 + 1) W12x).setCell (c := (W6.heap.size + 1 + 1)) (i := tj) (v := .int .u8 bv) (by omega) (by omega)), L2x.out.2.2.2.2.2.2.2.2.1.upd2 L2x.out.2.2.2.2.2.2.2.1 ((UpdR.refl W2.heap.size (W6.heap.size + 1 + 1 + 1) W12x).setCell (c := (W6.heap.size + 1 + 1)) (i := tj) (v := .int .u8 bv) (by omega) (by omega)), (Below.heap_setCell W12x ⟨(W6.heap.size + 1 + 1), tj, none⟩ (.int .u8 bv) xs (by show xs ≠ (W6.heap.size + 1 + 1); omega)).trans L2x.out.2.2.2.2.2.2.2.2.2⟩)
                have HJe := Lib.hid (show (W12x.setCell ⟨(W6.heap.size + 1 + 1), tj, none⟩ (.int .u8 bv)).cell? ⟨g, j * 3 + 1, none⟩ = some (.int .u8 av) ∧ (W12x.setCell ⟨(W6.heap.size + 1 + 1), tj, none⟩ (.int .u8 bv)).cell? ⟨g, j * 3 + 2, none⟩ = some (.int .u8 bv) from ⟨by unfold World.cell?; rw [Below.heap_setCell W12x ⟨(W6.heap.size + 1 + 1), tj, none⟩ _ g (by show g ≠ (W6.heap.size + 1 + 1); omega)]; exact HJd.out.1, by unfold World.cell?; rw [Below.heap_setCell W12x ⟨(W6.heap.size + 1 + 1), tj, none⟩ _ g (by show g ≠ (W6.heap.size + 1 + 1); omega)]; exact HJd.out.2⟩)
                refine hK' _ _ ⟨HJe.out.1, HJe.out.2⟩ ?_
                clear hK' K' c0 c1 HJd HJc L2 L2x
                have HJc := HJe
                clear HJe
                generalize (W12x.setCell ⟨(W6.heap.size + 1 + 1), tj, none⟩ (.int .u8 bv)) = W13 at *
                refine wpAnyH_done (by kernel_rfl) ?_ _
                refine NoPanic.normal ?_
                go_simp
                go_wp2_with fail
                go_roundw
                case rel => exact ⟨j + 1, HJt.out.2.2, by omega, by go_num, L3⟩
                case measure => have := HJt.out.2.2; simp [intOf]; omega
              · have L3 : Hid (Below w.heap.size w W12 ∧ (W6.heap.size + 1 + 1 + 1) < W12.heap.size ∧ W12.heap[W2.heap.size]? = some (.cells #[.slice sa 4 sc, .slice pa n pc, .int .i64 r, .bool false] 25 (0, 0)) ∧ W12.heap[W6.heap.size]? = some (.cells (bV L1) 44 (0, 0)) ∧ W12.heap[(W6.heap.size + 1)]? = some (.cells (bV (runF Wl F (j + 1))) 44 (0, 0)) ∧ W12.heap[(W6.heap.size + 1 + 1)]? = some (.cells (bV (runF Wl G (min (j + 1) r.toNat))) 44 (0, 0)) ∧ AsO W12 (W6.heap.size + 1 + 1 + 1) (.slice (some ⟨g, 0, none⟩) n gc) Wl ∧ SecsF W12 W2.heap.size (W6.heap.size + 1 + 1 + 1) (some ⟨b3, 0, none⟩) b3 0 4 TT ∧ SecsF W12 g (g + 1) (some ⟨b3, 0, none⟩) b3 0 4 TT ∧ W12.heap[xs]? = some (.cells #[.slice (some ⟨b3, 0, none⟩) 4 cap3, .slice none 0 0, .int .i64 0, .bool true] 25 (0, 0))) := Lib.hid (by have := L2.out; rw [show min j r.toNat = min (j + 1) r.toNat by omega] at this; exact this)
                clear L2
                go_wp2_with fail
                go_roundw
                case rel => exact ⟨j + 1, HJt.out.2.2, by omega, by go_num, L3⟩
                case measure => have := HJt.out.2.2; simp [intOf]; omega
            · have hjr1 : (j : Int) = r + 1 := by omega
              have hjm : j = r.toNat + 1 := by omega
              have hmm : min j r.toNat = r.toNat := by omega
              have hbf := L1'.out.2.2.2.2.1
              have hbs := L1'.out.2.2.2.2.2.1
              rw [hmm] at hbs
              rw [hjm] at hbf
              have hct := torn_h HE.out.1.1.s.len HD.out.2.2.2.2.2.2.2.2.2.1 HD.out.2.2.2.2.2.2.2.2.2.2 HE.out.2.2.1 HE.out.2.1 (m := r.toNat) (by omega) HY3.out
              rw [← HTT.out] at hct
              have hFl : (runF Wl F (r.toNat + 1)).length = 4 := (runF_len _ _ _).trans HD.out.2.2.2.2.2.2.2.2.2.1
              have hGl : (runF Wl G r.toNat).length = 4 := (runF_len _ _ _).trans HD.out.2.2.2.2.2.2.2.2.2.2
              obtain ⟨p0, p1, p2, p3, hp⟩ : ∃ m0 m1 m2 m3, runF Wl F (r.toNat + 1) = [m0, m1, m2, m3] := by
                match runF Wl F (r.toNat + 1), hFl with
                | [a, b, c, d], _ => exact ⟨a, b, c, d, rfl⟩
              obtain ⟨q0, q1, q2, q3, hq⟩ : ∃ m0 m1 m2 m3, runF Wl G r.toNat = [m0, m1, m2, m3] := by
                match runF Wl G r.toNat, hGl with
                | [a, b, c, d], _ => exact ⟨a, b, c, d, rfl⟩
              rw [hp] at hbf hct
              rw [hq] at hbs hct
              have hbf4 : wr.heap[(W6.heap.size + 1)]? = some (.cells #[.int .u8 p0, .int .u8 p1, .int .u8 p2, .int .u8 p3] 44 (0, 0)) := hbf
              have hbs4 : wr.heap[(W6.heap.size + 1 + 1)]? = some (.cells #[.int .u8 q0, .int .u8 q1, .int .u8 q2, .int .u8 q3] 44 (0, 0)) := hbs
              have hv9 := valid_h (lf := -1) (P := []) (l := []) (n := 0) L1'.out.2.2.2.2.2.2.2.1.s.len hct ⟨rfl, fun j hj => by omega⟩ (by omega) (by omega) (by omega)
              have H9 := Lib.hid (show _ ∧ _ ∧ _ ∧ _ ∧ _ ∧ _ from ⟨L1'.out.2.2.2.2.2.2.2.2.2, hbf4, hbs4, L1'.out.2.2.2.2.2.2.2.1.s, hv9, hct⟩)
              have HB9 := Lib.hid L1'.out.1
              have hjn' : ¬ ((j : Int) < (n : Int) ∧ (j : Int) ≤ r) := by omega
              have jx : (j : Int) < (n : Int) ∨ ¬ (j : Int) < (n : Int) := by omega
              have j7 : ¬ (j : Int) ≤ r := by omega
              have hst' : r < (n : Int) := by omega
              clear hbf hbs hct hFl hGl hp hq hbf4 hbs4 hv9 hjm hmm L1' hgo hjn' hjr1
              rcases jx with j8 | j8
              all_goals
                go_wp2_with fail
                refine wp_region_from 0 8 (fun w' => w'.heap[xs]? = some (.cells #[.slice (some ⟨b3, 0, none⟩) 4 cap3, .slice none 0 0, .int .i64 0, .bool true] 25 (0, 0)) ∧ w'.heap[(W6.heap.size + 1)]? = some (.cells #[.int .u8 p0, .int .u8 p1, .int .u8 p2, .int .u8 p3] 44 (0, 0)) ∧ w'.heap[(W6.heap.size + 1 + 1)]? = some (.cells #[.int .u8 q0, .int .u8 q1, .int .u8 q2, .int .u8 q3] 44 (0, 0))) (by kernel_rfl) (by kernel_rfl) (by decide) (by kernel_rfl) (⟨blk_below H9.out.1 ((Below.refl wr.heap.size wr).drew) (blk_lt H9.out.1), blk_below H9.out.2.1 ((Below.refl wr.heap.size wr).drew) (blk_lt H9.out.2.1), blk_below H9.out.2.2.1 ((Below.refl wr.heap.size wr).drew) (blk_lt H9.out.2.2.1)⟩) ?_
                simp only [List.drop_zero, List.take_succ_cons, List.take_zero]
                refine wpHeld_cons (.int .i64 40) (by kernel_rfl) ?_ ?_
                · rintro w' ⟨s1, s2, s3⟩
                  try go_simp
                refine wpHeld_cons (.bool true) (by kernel_rfl) ?_ ?_
                · rintro w' ⟨s1, s2, s3⟩
                  try go_simp
                refine wpHeld_cons (.bool true) (by kernel_rfl) ?_ ?_
                · rintro w' ⟨s1, s2, s3⟩
                  try go_simp
                refine wpHeld_cons (.pointer (some ⟨xs, 3, none⟩)) (by kernel_rfl) ?_ ?_
                · rintro w' ⟨s1, s2, s3⟩
                  try go_simp
                refine wpHeld_cons (.bool true) (by kernel_rfl) ?_ ?_
                · rintro w' ⟨s1, s2, s3⟩
                  have y0 := blk_cell s1 0
                  simp at y0
                  have y1 := blk_cell s1 1
                  simp at y1
                  have y2 := blk_cell s1 2
                  simp at y2
                  have y3 := blk_cell s1 3
                  simp at y3
                  try go_simp
                refine wpHeld_cons (.bool true) (by kernel_rfl) ?_ ?_
                · rintro w' ⟨s1, s2, s3⟩
                  try go_simp
                refine wpHeld_cons (.bool true) (by kernel_rfl) ?_ ?_
                · rintro w' ⟨s1, s2, s3⟩
                  try go_simp
                refine wpHeld_cons (.agg #[.slice (some ⟨b3, 0, none⟩) 4 cap3, .slice none 0 0, .int .i64 0, .bool true]) (by kernel_rfl) ?_ ?_
                · rintro w' ⟨s1, s2, s3⟩
                  have y0 := blk_cell s1 0
                  simp at y0
                  have y1 := blk_cell s1 1
                  simp at y1
                  have y2 := blk_cell s1 2
                  simp at y2
                  have y3 := blk_cell s1 3
                  simp at y3
                  try go_simp
                refine wpHeld_nil ?_
                go_simp
                refine wpAnyH_from (fuel := 4) 9 2 (fun _ _ _ _ _ h => h) (by kernel_rfl) (by decide) (by kernel_rfl) (⟨blk_below H9.out.1 ((Below.refl wr.heap.size wr).drew) (blk_lt H9.out.1), blk_below H9.out.2.1 ((Below.refl wr.heap.size wr).drew) (blk_lt H9.out.2.1), blk_below H9.out.2.2.1 ((Below.refl wr.heap.size wr).drew) (blk_lt H9.out.2.2.1)⟩) ?_
                simp only [List.drop_succ_cons, List.drop_zero, List.take_succ_cons, List.take_zero]
                refine wpHeld_cons (.agg #[.int .u8 p0, .int .u8 p1, .int .u8 p2, .int .u8 p3]) (by kernel_rfl) ?_ ?_
                · rintro w' ⟨s1, s2, s3⟩
                  have y0 := blk_cell s2 0
                  simp at y0
                  have y1 := blk_cell s2 1
                  simp at y1
                  have y2 := blk_cell s2 2
                  simp at y2
                  have y3 := blk_cell s2 3
                  simp at y3
                  try go_simp
                refine wpHeld_cons (.agg #[.int .u8 q0, .int .u8 q1, .int .u8 q2, .int .u8 q3]) (by kernel_rfl) ?_ ?_
                · rintro w' ⟨s1, s2, s3⟩
                  have y0 := blk_cell s3 0
                  simp at y0
                  have y1 := blk_cell s3 1
                  simp at y1
                  have y2 := blk_cell s3 2
                  simp at y2
                  have y3 := blk_cell s3 3
                  simp at y3
                  try go_simp
                refine wpHeld_nil ?_
                go_simp
                refine wpAnyH_one (i := 8) (by kernel_rfl) rfl (by kernel_rfl) (fun K' hK' => ?_)
                go_simp
                refine (restart_any (some ⟨b3, 0, none⟩) 4 cap3 none 0 0 0 true _).mono ?_
                rintro e V1 ⟨rfl, hb⟩
                have K1 := Lib.hid (below_after ((Below.refl wr.heap.size wr).drew) hb ((Below.refl wr.heap.size wr).drew).size)
                clear hb
                refine hK' _ _ (⟨blk_below H9.out.1 K1.out (blk_lt H9.out.1), blk_below H9.out.2.1 K1.out (blk_lt H9.out.2.1), blk_below H9.out.2.2.1 K1.out (blk_lt H9.out.2.2.1)⟩) ?_
                clear hK' K'
                go_simp
                refine wpAnyH_one (i := 11) (by kernel_rfl) rfl (by kernel_rfl) (fun K' hK' => ?_)
                go_simp
                refine (holds_any TT [] (-1) (some ⟨b3, 0, none⟩) b3 0 cap3 none 0 0 0 0 [p0, p1, p2, p3] [q0, q1, q2, q3] V1 (H9.out.2.2.2.1.below K1.out (Nat.le_refl _)) (pens_nil _ _) (by omega) rfl rfl (runB_t H9.out.2.2.2.2.1 rfl) (fun i hi => H9.out.2.2.2.2.2 i hi)).mono ?_
                rintro e V2 ⟨rfl, hb⟩
                have K2 := Lib.hid (below_after K1.out hb K1.out.size)
                clear hb
                refine hK' _ _ (⟨blk_below H9.out.1 K2.out (blk_lt H9.out.1), blk_below H9.out.2.1 K2.out (blk_lt H9.out.2.1), blk_below H9.out.2.2.1 K2.out (blk_lt H9.out.2.2.1)⟩) ?_
                clear hK' K'
                go_simp
                refine wpAnyH_from (fuel := 0) 12 2 (fun _ _ _ _ _ h => h) (by kernel_rfl) (by decide) (by kernel_rfl) (⟨blk_below H9.out.1 K2.out (blk_lt H9.out.1), blk_below H9.out.2.1 K2.out (blk_lt H9.out.2.1), blk_below H9.out.2.2.1 K2.out (blk_lt H9.out.2.2.1)⟩) ?_
                simp only [List.drop_succ_cons, List.drop_zero, List.take_succ_cons, List.take_zero]
                refine wpHeld_cons (.bool true) (by kernel_rfl) ?_ ?_
                · rintro w' ⟨s1, s2, s3⟩
                  try go_simp
                refine wpHeld_cons (.bool true) (by kernel_rfl) ?_ ?_
                · rintro w' ⟨s1, s2, s3⟩
                  try go_simp
                refine wpHeld_nil ?_
                go_simp
                refine wpAnyH_done (by kernel_rfl) ?_ _
                refine NoPanic.normal ?_
                go_simp
                have HFin := Lib.hid (HB9.out.trans (K2.out.mono HB9.out.size))
                go_wp2
                go_ret
                exact ⟨rfl, HFin.out⟩
    · obtain rfl : an = k := by omega
      have j1 : ¬ (an : Int) < (an : Int) := by omega
      obtain ⟨n, g, gc, Wl, S, P, F, G, L3, sa, sb, so, sc, pa, pb, pc, rfl, -, -, -, hn3, hd3, ⟨-, hf3, hs3, -, hF3, hG3⟩, ⟨hS3, -, -, -, -, -⟩, -, hc3, -, -, hr03, hr13⟩ := HV.out
      obtain ⟨f0, f1, f2, f3, rfl⟩ : ∃ m0 m1 m2 m3, F = [m0, m1, m2, m3] := by
        match F, hF3 with
        | [a, b, c, d], _ => exact ⟨a, b, c, d, rfl⟩
      obtain ⟨g0, g1, g2, g3, rfl⟩ : ∃ m0 m1 m2 m3, G = [m0, m1, m2, m3] := by
        match G, hG3 with
        | [a, b, c, d], _ => exact ⟨a, b, c, d, rfl⟩
      have hf4 : wr.heap[(W6.heap.size + 1)]? = some (.cells #[.int .u8 f0, .int .u8 f1, .int .u8 f2, .int .u8 f3] 44 (0, 0)) := hf3
      have hs4 : wr.heap[(W6.heap.size + 1 + 1)]? = some (.cells #[.int .u8 g0, .int .u8 g1, .int .u8 g2, .int .u8 g3] 44 (0, 0)) := hs3
      have hv3 := valid_h (lf := -1) (P := []) (l := []) (n := 0) hS3.s.len hc3 ⟨rfl, fun j hj => by omega⟩ (by omega) (by omega) (by omega)
      have H8 := Lib.hid (show _ ∧ _ ∧ _ ∧ _ ∧ _ ∧ _ from ⟨hd3, hf4, hs4, hS3.s, hv3, hc3⟩)
      clear HV hd3 hf3 hs3 hf4 hs4 hS3 hv3 hc3 hF3 hG3
      go_wp2_with fail
      refine wp_region_from 0 1 (fun w' => w'.heap[W2.heap.size]? = some (.cells #[.slice sa 4 sc, .slice pa n pc, .int .i64 r, .bool false] 25 (0, 0)) ∧ w'.heap[(W6.heap.size + 1)]? = some (.cells #[.int .u8 f0, .int .u8 f1, .int .u8 f2, .int .u8 f3] 44 (0, 0)) ∧ w'.heap[(W6.heap.size + 1 + 1)]? = some (.cells #[.int .u8 g0, .int .u8 g1, .int .u8 g2, .int .u8 g3] 44 (0, 0))) (by kernel_rfl) (by kernel_rfl) (by decide) (by kernel_rfl) (⟨blk_below H8.out.1 ((Below.refl wr.heap.size wr).drew) (blk_lt H8.out.1), blk_below H8.out.2.1 ((Below.refl wr.heap.size wr).drew) (blk_lt H8.out.2.1), blk_below H8.out.2.2.1 ((Below.refl wr.heap.size wr).drew) (blk_lt H8.out.2.2.1)⟩) ?_
      simp only [List.drop_zero, List.take_succ_cons, List.take_zero]
      refine wpHeld_cons (.agg #[.slice sa 4 sc, .slice pa n pc, .int .i64 r, .bool false]) (by kernel_rfl) ?_ ?_
      · rintro w' ⟨s1, s2, s3⟩
        have y0 := blk_cell s1 0
        simp at y0
        have y1 := blk_cell s1 1
        simp at y1
        have y2 := blk_cell s1 2
        simp at y2
        have y3 := blk_cell s1 3
        simp at y3
        try go_simp
      refine wpHeld_nil ?_
      go_simp
      refine wpAnyH_from (fuel := 3) 2 2 (fun _ _ _ _ _ h => h) (by kernel_rfl) (by decide) (by kernel_rfl) (⟨blk_below H8.out.1 ((Below.refl wr.heap.size wr).drew) (blk_lt H8.out.1), blk_below H8.out.2.1 ((Below.refl wr.heap.size wr).drew) (blk_lt H8.out.2.1), blk_below H8.out.2.2.1 ((Below.refl wr.heap.size wr).drew) (blk_lt H8.out.2.2.1)⟩) ?_
      simp only [List.drop_succ_cons, List.drop_zero, List.take_succ_cons, List.take_zero]
      refine wpHeld_cons (.agg #[.int .u8 f0, .int .u8 f1, .int .u8 f2, .int .u8 f3]) (by kernel_rfl) ?_ ?_
      · rintro w' ⟨s1, s2, s3⟩
        have y0 := blk_cell s2 0
        simp at y0
        have y1 := blk_cell s2 1
        simp at y1
        have y2 := blk_cell s2 2
        simp at y2
        have y3 := blk_cell s2 3
        simp at y3
        try go_simp
      refine wpHeld_cons (.agg #[.int .u8 g0, .int .u8 g1, .int .u8 g2, .int .u8 g3]) (by kernel_rfl) ?_ ?_
      · rintro w' ⟨s1, s2, s3⟩
        have y0 := blk_cell s3 0
        simp at y0
        have y1 := blk_cell s3 1
        simp at y1
        have y2 := blk_cell s3 2
        simp at y2
        have y3 := blk_cell s3 3
        simp at y3
        try go_simp
      refine wpHeld_nil ?_
      go_simp
      refine wpAnyH_one (i := 1) (by kernel_rfl) rfl (by kernel_rfl) (fun K' hK' => ?_)
      go_simp
      refine (restart_any sa 4 sc pa n pc r false _).mono ?_
      rintro e V1 ⟨rfl, hb⟩
      have K1 := Lib.hid (below_after ((Below.refl wr.heap.size wr).drew) hb ((Below.refl wr.heap.size wr).drew).size)
      clear hb
      refine hK' _ _ (⟨blk_below H8.out.1 K1.out (blk_lt H8.out.1), blk_below H8.out.2.1 K1.out (blk_lt H8.out.2.1), blk_below H8.out.2.2.1 K1.out (blk_lt H8.out.2.2.1)⟩) ?_
      clear hK' K'
      go_simp
      refine wpAnyH_one (i := 4) (by kernel_rfl) rfl (by kernel_rfl) (fun K' hK' => ?_)
      go_simp
      refine (holds_any S [] (-1) sa sb so sc none 0 0 0 0 [f0, f1, f2, f3] [g0, g1, g2, g3] V1 (H8.out.2.2.2.1.below K1.out (Nat.le_refl _)) (pens_nil _ _) (by omega) rfl rfl (runB_t H8.out.2.2.2.2.1 rfl) (fun i hi => H8.out.2.2.2.2.2 i hi)).mono ?_
      rintro e V2 ⟨rfl, hb⟩
      have K2 := Lib.hid (below_after K1.out hb K1.out.size)
      clear hb
      refine hK' _ _ (⟨blk_below H8.out.1 K2.out (blk_lt H8.out.1), blk_below H8.out.2.1 K2.out (blk_lt H8.out.2.1), blk_below H8.out.2.2.1 K2.out (blk_lt H8.out.2.2.1)⟩) ?_
      clear hK' K'
      go_simp
      refine wpAnyH_from (fuel := 0) 5 1 (fun _ _ _ _ _ h => h) (by kernel_rfl) (by decide) (by kernel_rfl) (⟨blk_below H8.out.1 K2.out (blk_lt H8.out.1), blk_below H8.out.2.1 K2.out (blk_lt H8.out.2.1), blk_below H8.out.2.2.1 K2.out (blk_lt H8.out.2.2.1)⟩) ?_
      simp only [List.drop_succ_cons, List.drop_zero, List.take_succ_cons, List.take_zero]
      refine wpHeld_cons (.bool true) (by kernel_rfl) ?_ ?_
      · rintro w' ⟨s1, s2, s3⟩
        try go_simp
      refine wpHeld_nil ?_
      go_simp
      refine wpAnyH_done (by kernel_rfl) ?_ _
      refine NoPanic.normal ?_
      go_simp
      have HFin := Lib.hid (HB.out.1.trans (K2.out.mono HB.out.1.size))
      go_wp2
      go_ret
      exact ⟨rfl, HFin.out⟩
end Go.Proofs.Ytbimmahlcceadaa
