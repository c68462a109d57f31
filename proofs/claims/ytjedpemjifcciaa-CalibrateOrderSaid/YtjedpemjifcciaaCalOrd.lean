/- The closure of CalibrateOrder (layer 42). -/
import Derived.Test.YtjedpemjifcciaaCalOrdM
namespace Go.Proofs.Ytjedpemjifcciaa
open Go.ChangeShapes Go.WideShapes Go.ChangeAt Go.RowKit Go.Sort Go.Shelf

def AllP (l : List Rt) (B : Nat) (w : World) (e : Ending) (w' : World) : Prop := ∃ v x ok, e = .returned (.tuple #[v, .bool ok]) ∧ RsO w' B v x ∧ (ok = true → Recs x ∧ x.Perm l) ∧ (ok = false → ¬ Good l) ∧ Below B w w'
set_option maxRecDepth 100000 in
set_option maxHeartbeats 8000000 in
theorem all_any (a : Option Addr) (n cap b off : Nat) (l : List Rt) (w : World) (h : Rs w a n b off l) (hn : n ≤ 40) :
    Calls Try.prog 20 #[.slice a n cap] w (AllP l w.heap.size w) := by
  have HM := Lib.hid (show _ ∧ _ ∧ _ from ⟨h, h.1, h.2.1⟩)
  clear h
  go_enter Try.func20, Try.ntmps20
  go_wp2
  go_loopw [2, 10] (fun o i wr => ∃ (k : Nat) (xa : Option Addr) (xn xc : Nat) (x : List Rt), k ≤ n ∧ i = .int .i64 k ∧ o = .slice xa xn xc ∧ RsO wr w.heap.size (.slice xa xn xc) x ∧ Recs x ∧ x.Perm (l.take k) ∧ Below w.heap.size w wr) (fun _ i _ => n - (intOf i).toNat)
  case atStart => exact ⟨0, _, _, _, [], Nat.zero_le _, rfl, rfl, RsO.nil _ _, recs_0, List.Perm.refl _, Below.refl _ _⟩
  case round =>
    obtain ⟨k, xa, xn, xc, x, hk, rfl, rfl, hO, hR, hp, hb⟩ := hrel
    by_cases hlt : k < n
    case neg =>
      obtain rfl : k = n := by omega
      have hkk : decide ((k : Int) < k) = false := by simp
      have HL := Lib.hid (show _ ∧ _ ∧ _ ∧ _ from ⟨hO, hR, hp, hb⟩)
      clear hO hR hp hb
      go_wp2
      exact bodyPost_ret (v := .tuple #[.slice xa xn xc, .bool true]) (by simp [results, Try.results20, go_sem]) rfl ⟨_, x, true, rfl, HL.out.1, fun _ => ⟨HL.out.2.1, by have h1 := HL.out.2.2.1; rwa [List.take_of_length_le (by rw [HM.out.2.1]; exact Nat.le_refl _)] at h1⟩, fun h => (by cases h), HL.out.2.2.2⟩
    obtain ⟨rfl, hbw⟩ := HM.out.2.2 (by omega)
    obtain ⟨c0, c1, c2, c3, c4⟩ := (HM.out.1.grown hb).2.2 k hlt
    have hkl : k < l.length := by rw [HM.out.2.1]; exact hlt
    have hxk : x.length = k := by rw [hp.length_eq, List.length_take]; omega
    have hgood := fun (i : Nat) => add_good (i := i) hR hp hkl
    have hbad := fun (i : Nat) => add_bad (i := i) hR hp hkl (by rw [HM.out.2.1]; exact hn)
    generalize nthR l k = r at *
    obtain ⟨v0, v1, v2, v3, v4⟩ := r
    dsimp only at c0 c1 c2 c3 c4
    obtain ⟨xa', xb, xc', ev, hX, -, hxz, -⟩ := hO.s
    injection ev with ev1 ev2 ev3
    subst ev1 ev3
    have HL := Lib.hid (show _ ∧ _ ∧ _ ∧ _ ∧ _ from ⟨hgood, hbad, hX, hxz, hR⟩)
    rw [← ev2] at HL
    clear hgood hbad hX hxz hO hp hR
    have hltI : (k : Int) < n := by omega
    have hxn : xn ≤ 40 := by omega
    clear ev2 hxk
    go_upto_region 4 with fail
    clear c0 c1 c2 c3 c4
    have HB := Lib.hid (show (wr.alloc (.cells #[.int .i64 v0, .int .i64 v1, .int .i64 v2, .int .i64 v3, .int .i64 v4] 24)).heap[wr.heap.size]? = some (.cells #[.int .i64 v0, .int .i64 v1, .int .i64 v2, .int .i64 v3, .int .i64 v4] 24 (0, 0)) ∧ Below w.heap.size w (wr.alloc (.cells #[.int .i64 v0, .int .i64 v1, .int .i64 v2, .int .i64 v3, .int .i64 v4] 24)) ∧ Rs (wr.alloc (.cells #[.int .i64 v0, .int .i64 v1, .int .i64 v2, .int .i64 v3, .int .i64 v4] 24)) xa xn xb 0 x from ⟨blk_new _ _, hb.alloc hb.size _, HL.out.2.2.1.grown ((Below.refl _ _).alloc (Nat.le_refl _) _)⟩)
    clear hb
    generalize wr.alloc (.cells #[.int .i64 v0, .int .i64 v1, .int .i64 v2, .int .i64 v3, .int .i64 v4] 24) = W6 at *
    generalize wr.heap.size = q6 at *
    have c0 := blk_cell HB.out.1 0; have c1 := blk_cell HB.out.1 1; have c2 := blk_cell HB.out.1 2; have c3 := blk_cell HB.out.1 3; have c4 := blk_cell HB.out.1 4
    simp at c0 c1 c2 c3 c4
    go_wp2_with fail
    clear c0 c1 c2 c3 c4
    refine (add_any xa xn xc xb 0 x (v0, v1, v2, v3, v4) W6 HB.out.2.2 (by omega) HL.out.2.2.2.1).mono ?_
    rintro e W7 ⟨i, v, hP, rfl, hO, hb⟩
    have HB7 := Lib.hid (below_after HB.out.2.1 hb HB.out.2.1.size)
    by_cases hc : addC x (v0, v1, v2, v3, v4) i = 0
    case neg =>
      have HG := Lib.hid (HL.out.2.1 i hc)
      obtain ⟨va, vb, vc, rfl, -⟩ := hO.s
      generalize addC x (v0, v1, v2, v3, v4) i = c0 at *
      have zc : (c0 == 0) = false := by simpa using hc
      have zc' : (c0 != 0) = true := by simpa using hc
      clear hc hP hO hb
      go_wp2
      exact bodyPost_ret (v := .tuple #[.slice none 0 0, .bool false]) (by simp [results, Try.results20, go_sem]) rfl ⟨_, [], false, rfl, RsO.nil _ _, fun h => (by cases h), fun _ => HG.out, HB7.out⟩
    obtain ⟨g1, g2⟩ := HL.out.1 i (hP HL.out.2.2.2.2) hc
    rw [addL_ok hc] at hO
    rw [hc]
    obtain ⟨va, vb, vc, rfl, -⟩ := hO.s
    have HN := Lib.hid (show _ ∧ _ ∧ _ from ⟨hO.mono HB.out.2.1.size, g1, g2⟩)
    clear hc hP hO hb g1 g2
    go_wp2
    go_roundw
    case rel => exact ⟨k + 1, _, _, _, _, by omega, by go_num, rfl, HN.out.1, HN.out.2.1, HN.out.2.2, HB7.out⟩
    case measure => simp [intOf] <;> omega
end Go.Proofs.Ytjedpemjifcciaa
