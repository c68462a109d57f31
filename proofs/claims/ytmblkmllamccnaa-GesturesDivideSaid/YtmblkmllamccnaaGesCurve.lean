/- The curve of a gesture that reaches (layer 12). -/
import Derived.Test.YtmblkmllamccnaaGesRAll
import Derived.Test.YtmblkmllamccnaaCrvValues
import Derived.Deep.Cut
namespace Go.Proofs.Ytmblkmllamccnaa
open Go.ChangeShapes Go.WideShapes Go.ChangeAt Go.RowKit

/-- The values of a gesture's curve, a latch's last one held. -/
def crv (g : Gt) (F : Int) (n : Nat) : List Int := (List.range n).map fun (i : Nat) => valC g.ks (min (F + (i : Int)) (g.t - 1))
theorem crv_len (g : Gt) (F : Int) (n : Nat) : (crv g F n).length = n := by simp [crv]
theorem crv_succ (g : Gt) (F : Int) (k : Nat) : crv g F (k + 1) = crv g F k ++ [valC g.ks (min (F + (k : Int)) (g.t - 1))] := by
  unfold crv
  rw [List.range_succ, List.map_append]; rfl
theorem crv_vals {g : Gt} {F : Int} {M : Nat} (h : ∀ i : Nat, i < M → F + (i : Int) ≤ g.t - 1) : vals g.ks F M = crv g F M := by
  unfold vals crv
  refine List.map_congr_left fun i hi => ?_
  have := h i (List.mem_range.1 hi)
  rw [Int.min_eq_left this]

def RV (e : Ending) (w' : World) (B : Nat) (l : List Int) : Prop := ∃ v, e = .returned v ∧ Ints w' B v l
set_option maxRecDepth 100000 in
set_option maxHeartbeats 8000000 in
theorem gcurve_any (ei ci : Nat) (g : Gt) (F T : Int) (N : Nat) (w : World) (h : GK w g) (hok : okG g) (hF0 : 0 ≤ F) (hF1 : F ≤ 1099511627776) (hN : T = F + (N : Int)) (hT : T ≤ 1099511627776) (hN2 : N ≤ 65536) :
    Calls Try.prog 27 #[.agg #[.func (.func ei) #[] #[], .func (.func ci) #[] #[], .int .i64 g.m, .int .i64 g.f, .int .i64 g.t, .int .i64 g.u, .slice g.ka g.kn g.kc, .int .i64 F, .int .i64 T]] w fun e w' => RV e w' w.heap.size (crv g F N) ∧ Below w.heap.size w w' := by
  have hcs := crv_succ g F
  have hcv := fun M h => crv_vals (g := g) (F := F) (M := M) h
  have hcl := crv_len g F
  generalize hcr : crv g F = CR at *
  obtain ⟨m, f, t, u, ka, kn, kc, kb, ko, ks⟩ := g
  obtain ⟨⟨h1, h2⟩, h3, h4, h5, h6, h7, h8, h9⟩ := hok
  dsimp only at h1 h2 h3 h4 h5 h6 h7 h8 h9 hcs hcv ⊢
  have HC := Lib.hid h9
  have HK := Lib.hid h
  have HCS := Lib.hid (show _ ∧ _ ∧ _ from ⟨hcs, hcv, hcl⟩)
  clear h hcs hcv hcl hcr h9
  have hB0 : Below w.heap.size w (w.alloc (.cells #[.func (.func ei) #[] #[], .func (.func ci) #[] #[], .int .i64 m, .int .i64 f, .int .i64 t, .int .i64 u, .slice ka kn kc, .int .i64 F, .int .i64 T] 62)) := (Below.refl _ _).alloc (Nat.le_refl _) _
  have n0 := blk_new w (.cells #[.func (.func ei) #[] #[], .func (.func ci) #[] #[], .int .i64 m, .int .i64 f, .int .i64 t, .int .i64 u, .slice ka kn kc, .int .i64 F, .int .i64 T] 62)
  obtain ⟨M, hM⟩ : ∃ M : Nat, (M : Int) = max 0 (min T (t - 1) - F) := ⟨(max 0 (min T (t - 1) - F)).toNat, by omega⟩
  have HM := Lib.hid hM
  have HN := Lib.hid hN
  have HB0 := Lib.hid (show _ ∧ _ from ⟨hB0, n0⟩)
  have hMN : M ≤ N := by omega
  have hTF : F ≤ T ∧ T - F ≤ 65536 := by omega
  obtain ⟨hTF1, hTF2⟩ := hTF
  clear hB0 n0 hM hN
  go_enter Try.func27, Try.ntmps27
  go_upto_region 2 with fail
  go_cut [4] from 13 (fun v wx => v = .int .i64 M ∧ wx = w.alloc (.cells #[.func (.func ei) #[] #[], .func (.func ci) #[] #[], .int .i64 m, .int .i64 f, .int .i64 t, .int .i64 u, .slice ka kn kc, .int .i64 F, .int .i64 T] 62))
  case first =>
    go_wp2_with fail
    all_goals
      go_meet
      case rel => exact ⟨congrArg (Value.int .i64) (by have := HM.out; omega), rfl⟩
  case rest =>
    obtain ⟨rfl, rfl⟩ := hcut
    have n1 := HB0.out.2
    have hs0 : (w.alloc (.cells #[.func (.func ei) #[] #[], .func (.func ci) #[] #[], .int .i64 m, .int .i64 f, .int .i64 t, .int .i64 u, .slice ka kn kc, .int .i64 F, .int .i64 T] 62)).heap.size = w.heap.size + 1 := by simp
    generalize w.alloc (.cells #[.func (.func ei) #[] #[], .func (.func ci) #[] #[], .int .i64 m, .int .i64 f, .int .i64 t, .int .i64 u, .slice ka kn kc, .int .i64 F, .int .i64 T] 62) = W0 at *
    have a4 := blk_cell n1 4; have a6 := blk_cell n1 6; have a7 := blk_cell n1 7; have a8 := blk_cell n1 8
    simp at a4 a6 a7 a8
    clear n1
    go_wp2_with fail
    refine (cvalues_any ka kb ko kn kc ks F M _ (HK.out.ks.grown HB0.out.1) HK.out.n9 HK.out.nc HK.out.lc).mono ?_
    rintro e w1 ⟨hV, hb⟩
    have hV2 : ∃ v, e = .returned (.tuple #[v, .int .i64 0]) ∧ Ints w1 W0.heap.size v (CR M) := by
      have e0 := valsE_ok (l := ks) (f := F) (n := (M : Int)) HC.out ⟨by omega, by omega⟩ (by omega)
      rcases hV with ⟨h, _⟩ | ⟨_, _, _, n', hn', _, v, hv, hI⟩
      · exact absurd e0 h
      · obtain rfl : M = n' := by omega
        exact ⟨v, by rw [hv], by rw [HCS.out.2.1 _ (fun i hi => by have := HM.out; omega)] at hI; exact hI⟩
    clear hV
    obtain ⟨v, rfl, hI⟩ := hV2
    have n1 := blk_below HB0.out.2 hb (by omega)
    have B1 := below_after HB0.out.1 hb (by omega)
    have hs1 := hb.size
    have HI := Lib.hid (show _ ∧ _ ∧ _ from ⟨hI.mono (by omega : w.heap.size + 1 ≤ W0.heap.size), n1, B1⟩)
    have a4 := blk_cell n1 4; have a6 := blk_cell n1 6; have a7 := blk_cell n1 7; have a8 := blk_cell n1 8
    simp at a4 a6 a7 a8
    clear hb hI n1 B1
    go_wp2_with fail
    refine (cvalue_any ka kb ko kn kc ks _ _ (HK.out.ks.grown HI.out.2.2) HK.out.n9 HK.out.nc HK.out.lc).mono ?_; rintro e w2 ⟨rfl, hb⟩; rw [chkC_yes HC.out, valV_yes HC.out]
    have n2 := blk_below HI.out.2.1 hb (by omega)
    have B2 := below_after HI.out.2.2 hb (by omega)
    have hs2 := hb.size
    have HI2 := Lib.hid (show _ ∧ _ ∧ _ from ⟨HI.out.1.below hb (Nat.le_refl _), n2, B2⟩)
    clear hb n2 B2 a4 a6 a7 a8 HI
    generalize hy : valC ks (t - 1) = y
    have HY := Lib.hid hy
    clear hy
    go_wp2
    go_loopw [5] (fun v wr => ∃ (k : Nat) (a : Option Addr) (c : Nat), M ≤ k ∧ k ≤ N ∧ v = .slice a k c ∧ Ints wr (w.heap.size + 1) (.slice a k c) (CR k) ∧ wr.heap[w.heap.size]? = some (.cells #[.func (.func ei) #[] #[], .func (.func ci) #[] #[], .int .i64 m, .int .i64 f, .int .i64 t, .int .i64 u, .slice ka kn kc, .int .i64 F, .int .i64 T] 62 (0, 0)) ∧ Below w.heap.size w wr) (fun v _ => N - (match v with | .slice _ n _ => n | _ => 0))
    case atStart =>
      obtain ⟨a, c, hv⟩ := HI2.out.1.isSlice
      have h := HI2.out
      rw [HCS.out.2.2] at hv
      rw [hv] at h
      exact ⟨M, a, c, Nat.le_refl _, hMN, hv, h.1, h.2.1, h.2.2⟩
    case round =>
      obtain ⟨k, a, c, hk1, hk2, rfl, hO, hX, hB⟩ := hrel
      have a7 := blk_cell hX 7; have a8 := blk_cell hX 8
      simp at a7 a8
      have hxs := (Array.getElem?_eq_some_iff.1 hX).1
      have HO := Lib.hid (show _ ∧ _ ∧ _ from ⟨hO, hX, hB⟩)
      clear hO hX hB HI2
      have u1 : IntKind.i64.wrap (T - F) = T - F := wrap_id (by omega)
      by_cases hlt : k < N
      · have i1 : (k : Int) < T - F := by have := HN.out; omega
        have hval : valC ks (min (F + (k : Int)) (t - 1)) = y := by
          rw [← HY.out]
          rw [Int.min_eq_right (by have := HM.out; have := HN.out; omega)]
        have HV := Lib.hid hval
        clear hval
        go_wp2_with (at_builtin; refine wpList_append_int rfl _ _ rfl (w.heap.size + 1) _ _ rfl (HO.out.1.alloc _) _ _ rfl _ _ (blk_new _ _) (by rw [HCS.out.2.2]; omega) (by simp; omega) ?_; intro v' w6 hO6 hB6 hgx; have hX6 := (hgx.block w.heap.size (by simp; omega) (fun e => by have := (World.ownsRow.lt HO.out.1 w.heap.size e.symm).1; omega)).trans (blk_alloc HO.out.2.1 _); have HO6 := Lib.hid (show _ ∧ _ ∧ _ from ⟨hO6, hX6, (HO.out.2.2.alloc (by omega) _).trans (hB6.mono (Nat.le_succ _))⟩); clear hgx hO6 hB6 hX6)
        obtain ⟨a', c', hv'⟩ := HO6.out.1.isSlice
        rw [List.length_append, HCS.out.2.2, List.length_singleton] at hv'
        subst hv'
        go_roundw
        case rel => exact ⟨k + 1, a', c', by omega, by omega, rfl, by rw [HCS.out.1, HV.out]; exact HO6.out.1, HO6.out.2.1, HO6.out.2.2⟩
        case measure => simp; omega
      · obtain rfl : k = N := by omega
        have i1 : ¬ (k : Int) < T - F := by have := HN.out; omega
        go_wp2
        exact bodyPost_ret (by simp [results, Try.results27, go_sem]) rfl ⟨⟨_, rfl, HO.out.1.mono (Nat.le_succ _)⟩, HO.out.2.2⟩
end Go.Proofs.Ytmblkmllamccnaa
