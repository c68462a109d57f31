/- The contract of Add (layer 42). -/
import Derived.Test.YtjedpemjifcciaaCalInsert
namespace Go.Proofs.Ytjedpemjifcciaa
open Go.ChangeShapes Go.WideShapes Go.ChangeAt Go.RowKit Go.Sort Go.Shelf

noncomputable def addC (l : List Rt) (r : Rt) (i : Nat) : Int := by classical exact if Recs l then (if hasK l (ky r) i = true ∨ ¬ okR r then 420 else if l.length = 256 then 2 else 0) else chkR l
noncomputable def addL (l : List Rt) (r : Rt) (i : Nat) : List Rt := if addC l r i = 0 then insR l r i else []
theorem addL_err {l : List Rt} {r : Rt} {i : Nat} (h : addC l r i ≠ 0) : addL l r i = [] := if_neg h
theorem addL_ok {l : List Rt} {r : Rt} {i : Nat} (h : addC l r i = 0) : addL l r i = insR l r i := if_pos h
theorem addC_no {l : List Rt} {r : Rt} {i : Nat} (h : ¬ Recs l) : addC l r i = chkR l := if_neg h
theorem addC_bad {l : List Rt} {r : Rt} {i : Nat} (h : Recs l) (h2 : hasK l (ky r) i = true ∨ ¬ okR r) : addC l r i = 420 := by unfold addC; rw [if_pos h, if_pos h2]
theorem addC_many {l : List Rt} {r : Rt} {i : Nat} (h : Recs l) (h2 : hasK l (ky r) i = false) (h3 : okR r) (h4 : l.length = 256) : addC l r i = 2 := by unfold addC; rw [if_pos h, if_neg (by rw [h2]; simp [h3]), if_pos h4]
theorem addC_ok {l : List Rt} {r : Rt} {i : Nat} (h : Recs l) (h2 : hasK l (ky r) i = false) (h3 : okR r) (h4 : l.length ≠ 256) : addC l r i = 0 := by unfold addC; rw [if_pos h, if_neg (by rw [h2]; simp [h3]), if_neg h4]
def AddP (l : List Rt) (r : Rt) (B : Nat) (w : World) (e : Ending) (w' : World) : Prop := ∃ i v, (Recs l → Pos l (ky r) i) ∧ e = .returned (.tuple #[v, .int .i64 (addC l r i)]) ∧ RsO w' B v (addL l r i) ∧ Below B w w'
theorem AddP.err {l : List Rt} {r : Rt} {B i : Nat} {w w' : World} {c : Int} (hp : Recs l → Pos l (ky r) i) (h : addC l r i = c) (hc : c ≠ 0) (hb : Below B w w') : AddP l r B w (.returned (.tuple #[.slice none 0 0, .int .i64 c])) w' :=
  ⟨i, _, hp, by rw [h], by rw [addL_err (by rw [h]; exact hc)]; exact RsO.nil _ _, hb⟩
theorem AddP.ok {l : List Rt} {r : Rt} {B i : Nat} {w w' : World} {v : Value} (hp : Recs l → Pos l (ky r) i) (h : addC l r i = 0) (hO : RsO w' B v (insR l r i)) (hb : Below B w w') : AddP l r B w (.returned (.tuple #[v, .int .i64 0])) w' :=
  ⟨i, v, hp, by rw [h], by rw [addL_ok h]; exact hO, hb⟩

set_option maxRecDepth 100000 in
set_option maxHeartbeats 4000000 in
theorem add_any (a : Option Addr) (n cap b off : Nat) (l : List Rt) (r : Rt) (w : World) (h : Rs w a n b off l) (hn : n ≤ 9223372036854775807) (hz : a = none → cap = 0) :
    Calls Try.prog 10 #[.slice a n cap, vR r] w (AddP l r w.heap.size w) := by
  have HM := Lib.hid (show _ ∧ _ ∧ _ from ⟨h, hz, h.1⟩)
  clear h hz
  obtain ⟨r0, r1, r2, r3, r4⟩ := r
  dsimp only [vR]
  obtain ⟨W, hW⟩ : ∃ W, W = w.alloc (.cells #[.int .i64 r0, .int .i64 r1, .int .i64 r2, .int .i64 r3, .int .i64 r4] 24) := ⟨_, rfl⟩
  have hB : Below w.heap.size w W := by rw [hW]; go_grown
  have g1 : W.heap[w.heap.size]? = some (.cells #[.int .i64 r0, .int .i64 r1, .int .i64 r2, .int .i64 r3, .int .i64 r4] 24 (0, 0)) := by rw [hW]; exact blk_new _ _
  have H := Lib.hid (show _ ∧ _ from ⟨hB, g1⟩)
  clear hB g1
  go_enter Try.func10, Try.ntmps10
  go_upto_region 1 with fail
  rw [← hW]
  clear hW
  go_wp2_with fail
  refine (check_any a n cap b off l W (HM.out.1.grown H.out.1) hn).mono ?_
  rintro e W1 ⟨rfl, hb1⟩
  have H1 := Lib.hid (show _ ∧ _ from ⟨below_after H.out.1 hb1 H.out.1.size, blk_below H.out.2 hb1 (Array.getElem?_eq_some_iff.1 H.out.2).1⟩)
  clear hb1
  rcases chkR_cases l with ⟨hc1, hc2⟩ | ⟨hc1, hc0, hc2⟩ | ⟨hR, hc2⟩
  · have E := Lib.hid (addC_no (r := (r0, r1, r2, r3, r4)) (i := 0) (l := l) (fun g => by have := g.1; omega))
    have E2 := Lib.hid hc2
    rw [hc2]
    clear hc2 hc1
    go_wp2
    exact bodyPost_ret (v := .tuple #[.slice none 0 0, .int .i64 2]) (by simp [results, Try.results10, go_sem]) rfl (AddP.err (i := 0) (fun g => by have h1 := chkR_yes g; rw [E2.out] at h1; cases h1) (E.out.trans E2.out) (by decide) H1.out.1)
  · have E := Lib.hid (addC_no (r := (r0, r1, r2, r3, r4)) (i := 0) (l := l) hc0)
    have E2 := Lib.hid hc2
    rw [hc2]
    clear hc2 hc1 hc0
    go_wp2
    exact bodyPost_ret (v := .tuple #[.slice none 0 0, .int .i64 420]) (by simp [results, Try.results10, go_sem]) rfl (AddP.err (i := 0) (fun g => by have h1 := chkR_yes g; rw [E2.out] at h1; cases h1) (E.out.trans E2.out) (by decide) H1.out.1)
  have HR := Lib.hid hR
  rw [hc2]
  clear hc2 hR
  have hn2 : n ≤ 256 := by rw [← HM.out.2.2]; exact HR.out.1
  have d0 := blk_cell H1.out.2 0; have d1 := blk_cell H1.out.2 1; have d2 := blk_cell H1.out.2 2; have d3 := blk_cell H1.out.2 3; have d4 := blk_cell H1.out.2 4
  simp at d0 d1 d2 d3 d4
  go_wp2_with fail
  clear d0 d1 d2 d3 d4
  refine (insert_any a n cap b off l (r0, r1, r2, r3, r4) W1 (HM.out.1.grown H1.out.1) hn2 HM.out.2.1 HR.out.2).mono ?_
  rintro e W2 ⟨i, v, hpos, rfl, hO, hb2⟩
  have H2 := Lib.hid (show _ ∧ _ ∧ _ ∧ _ from ⟨below_after H1.out.1 hb2 H1.out.1.size, blk_below H1.out.2 hb2 (Array.getElem?_eq_some_iff.1 H1.out.2).1, hpos, hO.mono H1.out.1.size⟩)
  clear hpos hO hb2
  have d0 := blk_cell H2.out.2.1 0; have d1 := blk_cell H2.out.2.1 1; have d2 := blk_cell H2.out.2.1 2; have d3 := blk_cell H2.out.2.1 3; have d4 := blk_cell H2.out.2.1 4
  simp at d0 d1 d2 d3 d4
  cases hk : hasK l (ky (r0, r1, r2, r3, r4)) i
  case true =>
    have E := Lib.hid (addC_bad (i := i) HR.out (.inl hk))
    clear hk
    go_wp2
    exact bodyPost_ret (v := .tuple #[.slice none 0 0, .int .i64 420]) (by simp [results, Try.results10, go_sem]) rfl (AddP.err (fun _ => H2.out.2.2.1) E.out (by decide) H2.out.1)
  have HK := Lib.hid hk
  clear hk
  by_cases hv : okR (r0, r1, r2, r3, r4)
  case neg =>
    have E := Lib.hid (addC_bad (i := i) (r := (r0, r1, r2, r3, r4)) HR.out (.inr hv))
    go_wp2_with fail
    clear d0 d1 d2 d3 d4
    refine (valid_f (r0, r1, r2, r3, r4) W2 hv).mono ?_
    rintro e W3 ⟨rfl, hb3⟩
    have HB := Lib.hid (below_after H2.out.1 hb3 H2.out.1.size)
    clear hb3
    go_wp2
    exact bodyPost_ret (v := .tuple #[.slice none 0 0, .int .i64 420]) (by simp [results, Try.results10, go_sem]) rfl (AddP.err (fun _ => H2.out.2.2.1) E.out (by decide) HB.out)
  go_wp2_with fail
  clear d0 d1 d2 d3 d4
  refine (valid_t (r0, r1, r2, r3, r4) W2 hv).mono ?_
  rintro e W3 ⟨rfl, hb3⟩
  have HB := Lib.hid (show _ ∧ _ from ⟨below_after H2.out.1 hb3 H2.out.1.size, H2.out.2.2.2.below hb3 (Nat.le_refl _)⟩)
  clear hb3
  by_cases h256 : n = 256
  · have E := Lib.hid (addC_many (i := i) (r := (r0, r1, r2, r3, r4)) HR.out HK.out hv (by rw [HM.out.2.2]; exact h256))
    have z : ((n : Int) == 256) = true := by simp; omega
    have z2 : decide ((n : Int) = 256) = true := by simp; omega
    clear h256
    go_wp2
    exact bodyPost_ret (v := .tuple #[.slice none 0 0, .int .i64 2]) (by simp [results, Try.results10, go_sem]) rfl (AddP.err (fun _ => H2.out.2.2.1) E.out (by decide) HB.out.1)
  · have E := Lib.hid (addC_ok (i := i) (r := (r0, r1, r2, r3, r4)) HR.out HK.out hv (by rw [HM.out.2.2]; exact h256))
    have z : ((n : Int) == 256) = false := by simp; omega
    have z2 : decide ((n : Int) = 256) = false := by simp; omega
    clear h256
    go_wp2
    exact bodyPost_ret (v := .tuple #[v, .int .i64 0]) (by simp [results, Try.results10, go_sem]) rfl (AddP.ok (fun _ => H2.out.2.2.1) E.out HB.out.2 HB.out.1)
end Go.Proofs.Ytjedpemjifcciaa
