/- The contract of tempo.Insert (layer 9). -/
import Derived.Test.YtcgndcapdodhlaaTemOwn
import Derived.Test.YtcgndcapdodhlaaTemPos
import Derived.Test.YtcgndcapdodhlaaHeld
namespace Go.Proofs.Ytcgndcapdodhlaa
open Go.ChangeShapes Go.WideShapes Go.ChangeAt Go.RowKit Go.Shelf

/-- Where a point of this tick goes: behind A points, and in front of point R. -/
def InsAt (l : List Tp) (tick : Int) (A R : Nat) : Prop :=
  (A < l.length ∧ R = A + 1 ∧ (nthT l A).1 = tick ∧ ∀ j, j < A → (nthT l j).1 ≠ tick) ∨
  (R = A ∧ A ≤ l.length ∧ (∀ j, j < l.length → (nthT l j).1 ≠ tick) ∧ (∀ j, j < A → (nthT l j).1 < tick) ∧ (A < l.length → tick < (nthT l A).1))
theorem insAt_one {l : List Tp} {tick : Int} {A R A' R' : Nat} (h : InsAt l tick A R) (h' : InsAt l tick A' R') : A = A' ∧ R = R' := by
  rcases h with ⟨a1, a2, a3, a4⟩ | ⟨a1, a2, a3, a4, a5⟩ <;> rcases h' with ⟨b1, b2, b3, b4⟩ | ⟨b1, b2, b3, b4, b5⟩
  · have : A = A' := by
      rcases Nat.lt_trichotomy A A' with c | c | c
      · exact absurd a3 (b4 A c)
      · exact c
      · exact absurd b3 (a4 A' c)
    omega
  · exact absurd a3 (b3 A a1)
  · exact absurd b3 (a3 A' b1)
  · have : A = A' := by
      rcases Nat.lt_trichotomy A A' with c | c | c
      · have := b4 A c; have := a5 (by omega); omega
      · exact c
      · have := a4 A' c; have := b5 (by omega); omega
    omega
def insX (l : List Tp) (t : Tp) (A R : Nat) : List Tp := l.take A ++ [t] ++ l.drop R

set_option maxRecDepth 100000 in
set_option maxHeartbeats 8000000 in
theorem tinsert_any (a : Option Addr) (b off len cap : Nat) (l : List Tp) (t0 t1 t2 : Int) (t3 : Bool) (w : World) (hM : Ts w a len b off l) (hn : len ≤ 1050000) (hlc : len ≤ cap) (hcm : cap ≤ 9223372036854775807) (hnc : a = none → cap = 0) :
    Calls Try.prog 17 #[.slice a len cap, .agg #[.int .i64 t0, .int .i64 t1, .int .i64 t2, .bool t3]] w fun e w' => (∃ A R, InsAt l t0 A R ∧ ((¬ Map (insX l (t0, t1, t2, t3) A R) ∧ e = .returned (.tuple #[.slice none 0 0, .int .i64 90])) ∨ (Map (insX l (t0, t1, t2, t3) A R) ∧ ∃ v, e = .returned (.tuple #[v, .int .i64 0]) ∧ TsO w' w.heap.size v (insX l (t0, t1, t2, t3) A R)))) ∧ Below w.heap.size w w' := by
  have hl := hM.1
  have HM := Lib.hid (show _ ∧ _ from ⟨hM, hl⟩)
  clear hM hl
  go_enter Try.func17, Try.ntmps17
  go_wp2
  go_loopw [6, 7, 16] (fun at' rest i wr => ∃ k A : Nat, k ≤ len ∧ i = .int .i64 k ∧ at' = .int .i64 A ∧ rest = .int .i64 A ∧ (∀ j, j < k → (nthT l j).1 ≠ t0) ∧ (A = len ∧ (∀ j, j < k → (nthT l j).1 < t0) ∨ A < k ∧ t0 < (nthT l A).1 ∧ ∀ j, j < A → (nthT l j).1 < t0) ∧ wr.heap[w.heap.size]? = some (.cells #[.int .i64 t0, .int .i64 t1, .int .i64 t2, .bool t3] 30 (0, 0)) ∧ Below w.heap.size w wr) (fun _ _ i _ => len - (intOf i).toNat)
  case atStart => exact ⟨0, len, Nat.zero_le _, rfl, rfl, rfl, fun j hj => by omega, .inl ⟨rfl, fun j hj => by omega⟩, blk_new w _, (Below.refl _ _).alloc (Nat.le_refl _) _⟩
  case round =>
    obtain ⟨k, A, hk, rfl, rfl, rfl, hne, hA, hbx, hB⟩ := hrel
    have hAl : A ≤ len := by rcases hA with ⟨h, _⟩ | ⟨h, _⟩ <;> omega
    by_cases hlt : k < len
    case neg =>
      obtain rfl : len = k := by omega
      have hIns : InsAt l t0 A A := .inr ⟨rfl, by rw [HM.out.2]; exact hAl, by rw [HM.out.2]; exact hne, by
        rcases hA with ⟨h1, h2⟩ | ⟨_, _, h2⟩
        · intro j hj; exact h2 j (by omega)
        · exact h2, fun h => by
        rw [HM.out.2] at h
        rcases hA with ⟨h1, h2⟩ | ⟨_, h2, _⟩
        · omega
        · exact h2⟩
      clear hA hne
      have hbw := (Array.getElem?_eq_some_iff.1 hbx).1
      have d0 := blk_cell hbx 0; have d1 := blk_cell hbx 1; have d2 := blk_cell hbx 2; have d3 := blk_cell hbx 3
      simp at d0 d1 d2 d3
      obtain ⟨b3, o3, hP, hPn⟩ := (HM.out.1.grown hB).post (k := A) (cap := cap) (by omega) hlc hnc
      have hQ := (HM.out.1.grown hB).pre (k := A) (by omega)
      obtain ⟨a3, ha3⟩ : ∃ a3, a3 = (if cap = A then a else a.map (·.add (A * 4))) := ⟨_, rfl⟩
      rw [← ha3] at hP hPn
      have HA3 := Lib.hid ha3
      have HPQ := Lib.hid (show _ ∧ _ ∧ _ ∧ _ ∧ _ ∧ _ from ⟨hP, hPn, hQ, hB, hIns, hbx⟩)
      have i1 : (A : Int) ≤ (cap : Int) := by omega
      have i2 : (A : Int) ≤ (len : Int) := by omega
      have i3 : A ≤ cap := by omega
      have i4 : A ≤ len := by omega
      have hWs := hB.size
      clear ha3 hP hPn hQ hB hIns hbx
      go_wp2_with fail
      refine wp_region_from 0 5 (fun w' => w'.cell? ⟨w.heap.size, 0, none⟩ = some (.int .i64 t0) ∧ w'.cell? ⟨w.heap.size, 1, none⟩ = some (.int .i64 t1) ∧ w'.cell? ⟨w.heap.size, 2, none⟩ = some (.int .i64 t2) ∧ w'.cell? ⟨w.heap.size, 3, none⟩ = some (.bool t3)) (by kernel_rfl) (by kernel_rfl) (by decide) (by kernel_rfl) ⟨d0, d1, d2, d3⟩ ?_
      simp only [List.drop_zero, List.take_succ_cons, List.take_zero]
      refine wpHeld_cons (.slice a len cap) (by kernel_rfl) ?_ ?_
      · rintro w' ⟨s0, s1, s2, s3⟩
        try go_simp
      refine wpHeld_cons (.int .i64 A) (by kernel_rfl) ?_ ?_
      · rintro w' ⟨s0, s1, s2, s3⟩
        try go_simp
      refine wpHeld_cons (.int .i64 A) (by kernel_rfl) ?_ ?_
      · rintro w' ⟨s0, s1, s2, s3⟩
        try go_simp
      refine wpHeld_cons (.slice a A A) (by kernel_rfl) ?_ ?_
      · rintro w' ⟨s0, s1, s2, s3⟩
        cases a
        · have hc0 := hnc rfl
          have hA0 : A = 0 := by omega
          first
            | (exfalso; omega)
            | (simp only [hA0, hc0]
               go_simp)
        · try go_simp
          try (first | omega | (intro h; exfalso; omega))
      refine wpHeld_cons (.agg #[.int .i64 t0, .int .i64 t1, .int .i64 t2, .bool t3]) (by kernel_rfl) ?_ ?_
      · rintro w' ⟨s0, s1, s2, s3⟩
        try go_simp
      refine wpHeld_nil ?_
      go_simp
      refine wpAnyH_from 7 3 (fun _ _ _ _ _ h => h) (by kernel_rfl) (by decide) (by kernel_rfl) ⟨d0, d1, d2, d3⟩ ?_
      simp only [List.drop_succ_cons, List.drop_zero, List.take_succ_cons, List.take_zero]
      refine wpHeld_cons (.slice a len cap) (by kernel_rfl) ?_ ?_
      · rintro w' ⟨s0, s1, s2, s3⟩
        try go_simp
      refine wpHeld_cons (.int .i64 A) (by kernel_rfl) ?_ ?_
      · rintro w' ⟨s0, s1, s2, s3⟩
        try go_simp
      refine wpHeld_cons (.slice a3 (len - A : Nat) (cap - A : Nat)) (by kernel_rfl) ?_ ?_
      · rintro w' ⟨s0, s1, s2, s3⟩
        rw [HA3.out]
        cases a
        · have hc0 := hnc rfl
          have hR0 : A = 0 := by omega
          have hl0 : len = 0 := by omega
          first
            | (exfalso; omega)
            | (simp only [hR0, hc0, hl0]
               go_simp)
        · try go_simp
          try (first | omega | (intro h; exfalso; omega))
      refine wpHeld_nil ?_
      go_simp
      refine wpAnyH_one (i := 5) (by kernel_rfl) rfl (by kernel_rfl) (fun K' hK' => ?_)
      go_simp
      refine hK' _ _ ⟨cell_alloc_keep d0 _, cell_alloc_keep d1 _, cell_alloc_keep d2 _, cell_alloc_keep d3 _⟩ ?_
      clear hK' K'
      have hBW : Below wr.heap.size wr (wr.drew.alloc (.cells #[.int .i64 t0, .int .i64 t1, .int .i64 t2, .bool t3] 30)) := (Below.refl _ _).drew.alloc (by show wr.heap.size ≤ wr.heap.size; omega) _
      refine wpAnyH_one (i := 6) (by kernel_rfl) rfl (by kernel_rfl) (fun K' hK' => ?_)
      refine wp_append_full (.tmp 46) (.tmp 48) (by rfl) a _ _ A _ (by rfl) (HPQ.out.2.2.1.grown hBW) (fun h => by have := hnc h; omega) _ (t0, t1, t2, t3) (by rfl) _ _ (blk_new _ _) (by omega) ?_
      intro v1 W1 hO1 hG1
      have hB1 : Below wr.heap.size wr W1 := hBW.trans (((Below.refl _ _).grown hG1 (Nat.le_refl _) (fun _ h => by cases h)).mono (by simp))
      have hs1 := hB1.size
      have HO1 := Lib.hid (hO1.mono (B' := wr.heap.size) (by simp))
      clear hBW hO1 hG1
      have f0 := (hB1.cell (p := ⟨w.heap.size, 0, none⟩) hbw).trans d0
      have f1 := (hB1.cell (p := ⟨w.heap.size, 1, none⟩) hbw).trans d1
      have f2 := (hB1.cell (p := ⟨w.heap.size, 2, none⟩) hbw).trans d2
      have f3 := (hB1.cell (p := ⟨w.heap.size, 3, none⟩) hbw).trans d3
      have HB1 := Lib.hid hB1
      clear hB1
      refine hK' _ _ ⟨f0, f1, f2, f3⟩ ?_
      clear hK' K'
      refine wpAnyH_one (i := 10) (by kernel_rfl) rfl (by kernel_rfl) (fun K' hK' => ?_)
      refine wp_append_ts (.tmp 49) (.tmp 52) (by rfl) wr.heap.size v1 _ (by rfl) HO1.out a3 b3 o3 (len - A) (cap - A) (l.drop A) (by rfl) (HPQ.out.1.grown HB1.out) HPQ.out.2.1 (by have := HM.out.2; simp; omega) hs1 ?_
      intro v2 W2 hO2 hB2 _
      have hB2' := HB1.out.trans hB2
      have e0 := (hB2'.cell (p := ⟨w.heap.size, 0, none⟩) hbw).trans d0
      have e1 := (hB2'.cell (p := ⟨w.heap.size, 1, none⟩) hbw).trans d1
      have e2 := (hB2'.cell (p := ⟨w.heap.size, 2, none⟩) hbw).trans d2
      have e3 := (hB2'.cell (p := ⟨w.heap.size, 3, none⟩) hbw).trans d3
      refine hK' _ _ ⟨e0, e1, e2, e3⟩ ?_
      clear hK' K'
      have hC2 := HPQ.out.2.2.2.1.trans (hB2'.mono hWs)
      clear hB2 HB1 HO1 f0 f1 f2 f3
      obtain ⟨a6, g6, c6, rfl, hT6, hb6, _, _, _⟩ := hO2.ts
      obtain ⟨X, hX⟩ : ∃ X, X = insX l (t0, t1, t2, t3) A A := ⟨_, rfl⟩
      have hX2 : l.take A ++ [(t0, t1, t2, t3)] ++ l.drop A = X := hX.symm
      rw [hX2] at hO2 hT6 hb6 ⊢
      have hXl : X.length ≤ 1200001 := by rw [← hX2]; have := HM.out.2; simp; omega
      have HX := Lib.hid (show _ ∧ _ ∧ _ ∧ _ from ⟨hX, hO2, hT6, hC2⟩)
      clear hX hX2 hO2 hT6 hb6 hC2 hB2'
      refine wpAnyH_one (i := 11) (by kernel_rfl) rfl (by kernel_rfl) (fun K' hK' => ?_)
      go_simp
      refine hK' _ _ ⟨e0, e1, e2, e3⟩ ?_
      clear hK' K'
      refine wpAnyH_done (by kernel_rfl) ?_ _
      refine NoPanic.normal ?_
      go_wp2_with fail
      refine (tcheck_any a6 X.length c6 g6 0 X W2 HX.out.2.2.1 (by omega)).mono ?_
      rintro e W3 ⟨rfl, hb3⟩
      have hC3 := below_after HX.out.2.2.2 hb3 HX.out.2.2.2.size
      have hO3 := (HX.out.2.1.below hb3 (Nat.le_refl _)).mono (B' := w.heap.size) hWs
      clear hb3
      by_cases hmap : Map X
      · rw [chk_yes hmap]
        go_wp2
        exact bodyPost_ret (v := .tuple #[.slice a6 X.length c6, .int .i64 0]) (by simp [results, Try.results17, go_sem]) rfl ⟨⟨A, A, HPQ.out.2.2.2.2.1, .inr ⟨by rw [← HX.out.1]; exact hmap, _, rfl, by rw [← HX.out.1]; exact hO3⟩⟩, hC3⟩
      · rw [chk_no hmap]
        go_wp2
        exact bodyPost_ret (v := .tuple #[.slice none 0 0, .int .i64 90]) (by simp [results, Try.results17, go_sem]) rfl ⟨⟨A, A, HPQ.out.2.2.2.2.1, .inl ⟨by rw [← HX.out.1]; exact hmap, rfl⟩⟩, hC3⟩
    obtain ⟨c0, c1, c2, c3⟩ := (HM.out.1.grown hB).2.2 k hlt
    obtain ⟨rfl, hbl⟩ := HM.out.1.2.1 (by omega)
    obtain ⟨x, hx⟩ : ∃ x, x = nthT l k := ⟨_, rfl⟩
    rw [← hx] at c0 c1 c2 c3
    obtain ⟨x0, x1, x2, x3⟩ := x
    dsimp only at c0 c1 c2 c3
    have hx0 : x0 = (nthT l k).1 := by rw [← hx]
    have hbw0 := (Array.getElem?_eq_some_iff.1 hbx).1
    have z0 := blk_cell hbx 0
    simp at z0
    have hsz := hB.size
    by_cases heq : x0 = t0
    · have hIns : InsAt l t0 k (k + 1) := .inl ⟨by rw [HM.out.2]; exact hlt, rfl, by rw [← hx0]; exact heq, hne⟩
      have zq : (x0 == t0) = true := by simp [heq]
      have hB0 := hB.alloc hsz (.cells #[.int .i64 x0, .int .i64 x1, .int .i64 x2, .bool x3] 30)
      have hbx0 := blk_alloc hbx (.cells #[.int .i64 x0, .int .i64 x1, .int .i64 x2, .bool x3] 30)
      have HQ := Lib.hid (show _ ∧ _ ∧ _ from ⟨hIns, hB0, hbx0⟩)
      clear hA hne heq hx hx0 hIns hB0 hbx0 hB hbx
      go_wp2_with fail
      have hIns := HQ.out.1
      have hB := HQ.out.2.1
      have hbx := HQ.out.2.2
      clear HQ c0 c1 c2 c3 z0 hbw0 hsz
      generalize (some ⟨b, off, none⟩ : Option Addr) = a at *
      generalize wr.alloc (.cells #[.int .i64 x0, .int .i64 x1, .int .i64 x2, .bool x3] 30) = wr at *
      have hbw := (Array.getElem?_eq_some_iff.1 hbx).1
      have d0 := blk_cell hbx 0; have d1 := blk_cell hbx 1; have d2 := blk_cell hbx 2; have d3 := blk_cell hbx 3
      simp at d0 d1 d2 d3
      obtain ⟨b3, o3, hP, hPn⟩ := (HM.out.1.grown hB).post (k := (k + 1)) (cap := cap) (by omega) hlc hnc
      have hQ := (HM.out.1.grown hB).pre (k := k) (by omega)
      obtain ⟨a3, ha3⟩ : ∃ a3, a3 = (if cap = (k + 1) then a else a.map (·.add ((k + 1) * 4))) := ⟨_, rfl⟩
      rw [← ha3] at hP hPn
      have HA3 := Lib.hid ha3
      have HPQ := Lib.hid (show _ ∧ _ ∧ _ ∧ _ ∧ _ ∧ _ from ⟨hP, hPn, hQ, hB, hIns, hbx⟩)
      have i1 : (k : Int) ≤ (cap : Int) := by omega
      have i2 : ((k + 1) : Int) ≤ (len : Int) := by omega
      have i3 : k ≤ cap := by omega
      have i4 : (k + 1) ≤ len := by omega
      have hWs := hB.size
      clear ha3 hP hPn hQ hB hIns hbx
      refine wp_region_from 0 5 (fun w' => w'.cell? ⟨w.heap.size, 0, none⟩ = some (.int .i64 t0) ∧ w'.cell? ⟨w.heap.size, 1, none⟩ = some (.int .i64 t1) ∧ w'.cell? ⟨w.heap.size, 2, none⟩ = some (.int .i64 t2) ∧ w'.cell? ⟨w.heap.size, 3, none⟩ = some (.bool t3)) (by kernel_rfl) (by kernel_rfl) (by decide) (by kernel_rfl) ⟨d0, d1, d2, d3⟩ ?_
      simp only [List.drop_zero, List.take_succ_cons, List.take_zero]
      refine wpHeld_cons (.slice a len cap) (by kernel_rfl) ?_ ?_
      · rintro w' ⟨s0, s1, s2, s3⟩
        try go_simp
      refine wpHeld_cons (.int .i64 k) (by kernel_rfl) ?_ ?_
      · rintro w' ⟨s0, s1, s2, s3⟩
        try go_simp
      refine wpHeld_cons (.int .i64 k) (by kernel_rfl) ?_ ?_
      · rintro w' ⟨s0, s1, s2, s3⟩
        try go_simp
      refine wpHeld_cons (.slice a k k) (by kernel_rfl) ?_ ?_
      · rintro w' ⟨s0, s1, s2, s3⟩
        cases a
        · have hc0 := hnc rfl
          have hA0 : k = 0 := by omega
          first
            | (exfalso; omega)
            | (simp only [hA0, hc0]
               go_simp)
        · try go_simp
          try (first | omega | (intro h; exfalso; omega))
      refine wpHeld_cons (.agg #[.int .i64 t0, .int .i64 t1, .int .i64 t2, .bool t3]) (by kernel_rfl) ?_ ?_
      · rintro w' ⟨s0, s1, s2, s3⟩
        try go_simp
      refine wpHeld_nil ?_
      go_simp
      refine wpAnyH_from 7 3 (fun _ _ _ _ _ h => h) (by kernel_rfl) (by decide) (by kernel_rfl) ⟨d0, d1, d2, d3⟩ ?_
      simp only [List.drop_succ_cons, List.drop_zero, List.take_succ_cons, List.take_zero]
      refine wpHeld_cons (.slice a len cap) (by kernel_rfl) ?_ ?_
      · rintro w' ⟨s0, s1, s2, s3⟩
        try go_simp
      refine wpHeld_cons (.int .i64 (k + 1)) (by kernel_rfl) ?_ ?_
      · rintro w' ⟨s0, s1, s2, s3⟩
        try go_simp
      refine wpHeld_cons (.slice a3 (len - (k + 1) : Nat) (cap - (k + 1) : Nat)) (by kernel_rfl) ?_ ?_
      · rintro w' ⟨s0, s1, s2, s3⟩
        rw [HA3.out]
        cases a
        · have hc0 := hnc rfl
          have hR0 : (k + 1) = 0 := by omega
          have hl0 : len = 0 := by omega
          first
            | (exfalso; omega)
            | (simp only [hR0, hc0, hl0]
               go_simp)
        · try go_simp
          try (first | omega | (intro h; exfalso; omega))
      refine wpHeld_nil ?_
      go_simp
      refine wpAnyH_one (i := 5) (by kernel_rfl) rfl (by kernel_rfl) (fun K' hK' => ?_)
      go_simp
      refine hK' _ _ ⟨cell_alloc_keep d0 _, cell_alloc_keep d1 _, cell_alloc_keep d2 _, cell_alloc_keep d3 _⟩ ?_
      clear hK' K'
      have hBW : Below wr.heap.size wr (wr.drew.alloc (.cells #[.int .i64 t0, .int .i64 t1, .int .i64 t2, .bool t3] 30)) := (Below.refl _ _).drew.alloc (by show wr.heap.size ≤ wr.heap.size; omega) _
      refine wpAnyH_one (i := 6) (by kernel_rfl) rfl (by kernel_rfl) (fun K' hK' => ?_)
      refine wp_append_full (.tmp 46) (.tmp 48) (by rfl) a _ _ k _ (by rfl) (HPQ.out.2.2.1.grown hBW) (fun h => by have := hnc h; omega) _ (t0, t1, t2, t3) (by rfl) _ _ (blk_new _ _) (by omega) ?_
      intro v1 W1 hO1 hG1
      have hB1 : Below wr.heap.size wr W1 := hBW.trans (((Below.refl _ _).grown hG1 (Nat.le_refl _) (fun _ h => by cases h)).mono (by simp))
      have hs1 := hB1.size
      have HO1 := Lib.hid (hO1.mono (B' := wr.heap.size) (by simp))
      clear hBW hO1 hG1
      have f0 := (hB1.cell (p := ⟨w.heap.size, 0, none⟩) hbw).trans d0
      have f1 := (hB1.cell (p := ⟨w.heap.size, 1, none⟩) hbw).trans d1
      have f2 := (hB1.cell (p := ⟨w.heap.size, 2, none⟩) hbw).trans d2
      have f3 := (hB1.cell (p := ⟨w.heap.size, 3, none⟩) hbw).trans d3
      have HB1 := Lib.hid hB1
      clear hB1
      refine hK' _ _ ⟨f0, f1, f2, f3⟩ ?_
      clear hK' K'
      refine wpAnyH_one (i := 10) (by kernel_rfl) rfl (by kernel_rfl) (fun K' hK' => ?_)
      refine wp_append_ts (.tmp 49) (.tmp 52) (by rfl) wr.heap.size v1 _ (by rfl) HO1.out a3 b3 o3 (len - (k + 1)) (cap - (k + 1)) (l.drop (k + 1)) (by rfl) (HPQ.out.1.grown HB1.out) HPQ.out.2.1 (by have := HM.out.2; simp; omega) hs1 ?_
      intro v2 W2 hO2 hB2 _
      have hB2' := HB1.out.trans hB2
      have e0 := (hB2'.cell (p := ⟨w.heap.size, 0, none⟩) hbw).trans d0
      have e1 := (hB2'.cell (p := ⟨w.heap.size, 1, none⟩) hbw).trans d1
      have e2 := (hB2'.cell (p := ⟨w.heap.size, 2, none⟩) hbw).trans d2
      have e3 := (hB2'.cell (p := ⟨w.heap.size, 3, none⟩) hbw).trans d3
      refine hK' _ _ ⟨e0, e1, e2, e3⟩ ?_
      clear hK' K'
      have hC2 := HPQ.out.2.2.2.1.trans (hB2'.mono hWs)
      clear hB2 HB1 HO1 f0 f1 f2 f3
      obtain ⟨a6, g6, c6, rfl, hT6, hb6, _, _, _⟩ := hO2.ts
      obtain ⟨X, hX⟩ : ∃ X, X = insX l (t0, t1, t2, t3) k (k + 1) := ⟨_, rfl⟩
      have hX2 : l.take k ++ [(t0, t1, t2, t3)] ++ l.drop (k + 1) = X := hX.symm
      rw [hX2] at hO2 hT6 hb6 ⊢
      have hXl : X.length ≤ 1200001 := by rw [← hX2]; have := HM.out.2; simp; omega
      have HX := Lib.hid (show _ ∧ _ ∧ _ ∧ _ from ⟨hX, hO2, hT6, hC2⟩)
      clear hX hX2 hO2 hT6 hb6 hC2 hB2'
      refine wpAnyH_one (i := 11) (by kernel_rfl) rfl (by kernel_rfl) (fun K' hK' => ?_)
      go_simp
      refine hK' _ _ ⟨e0, e1, e2, e3⟩ ?_
      clear hK' K'
      refine wpAnyH_done (by kernel_rfl) ?_ _
      refine NoPanic.normal ?_
      go_wp2_with fail
      refine (tcheck_any a6 X.length c6 g6 0 X W2 HX.out.2.2.1 (by omega)).mono ?_
      rintro e W3 ⟨rfl, hb3⟩
      have hC3 := below_after HX.out.2.2.2 hb3 HX.out.2.2.2.size
      have hO3 := (HX.out.2.1.below hb3 (Nat.le_refl _)).mono (B' := w.heap.size) hWs
      clear hb3
      by_cases hmap : Map X
      · rw [chk_yes hmap]
        go_wp2
        exact bodyPost_ret (v := .tuple #[.slice a6 X.length c6, .int .i64 0]) (by simp [results, Try.results17, go_sem]) rfl ⟨⟨k, (k + 1), HPQ.out.2.2.2.2.1, .inr ⟨by rw [← HX.out.1]; exact hmap, _, rfl, by rw [← HX.out.1]; exact hO3⟩⟩, hC3⟩
      · rw [chk_no hmap]
        go_wp2
        exact bodyPost_ret (v := .tuple #[.slice none 0 0, .int .i64 90]) (by simp [results, Try.results17, go_sem]) rfl ⟨⟨k, (k + 1), HPQ.out.2.2.2.2.1, .inl ⟨by rw [← HX.out.1]; exact hmap, rfl⟩⟩, hC3⟩
    have zq : (x0 == t0) = false := by simp [heq]
    have hne' : ∀ j, j < k + 1 → (nthT l j).1 ≠ t0 := fun j hj => by
      by_cases e : j = k
      · rw [e, ← hx0]; exact heq
      · exact hne j (by omega)
    by_cases hgt : t0 < x0
    · by_cases hAe : A = len
      · have hA2 : ∀ j, j < k → (nthT l j).1 < t0 := by
          rcases hA with ⟨_, h⟩ | ⟨h, _, _⟩
          · exact h
          · omega
        have HQ := Lib.hid (show _ ∧ _ ∧ _ ∧ _ ∧ _ from ⟨hne', hA2, hx0, hB, hbx⟩)
        have d1 : decide (t0 < x0) = true := decide_eq_true hgt
        have d2 : ((A : Int) == (len : Int)) = true := by simp; omega
        have d3 : decide ((A : Int) = (len : Int)) = true := by simp; omega
        clear hA hne hne' hA2 hx hx0 heq hB hbx hAe
        go_wp2
        go_roundw
        case rel => exact ⟨k + 1, k, by omega, by go_num, rfl, rfl, HQ.out.1, .inr ⟨by omega, by rw [← HQ.out.2.2.1]; exact hgt, HQ.out.2.1⟩, blk_alloc HQ.out.2.2.2.2 _, HQ.out.2.2.2.1.alloc hsz _⟩
        case measure => simp [intOf]; omega
      · have hA2 : A < k ∧ t0 < (nthT l A).1 ∧ ∀ j, j < A → (nthT l j).1 < t0 := by
          rcases hA with ⟨h, _⟩ | h
          · omega
          · exact h
        have HQ := Lib.hid (show _ ∧ _ ∧ _ ∧ _ from ⟨hne', hA2, hB, hbx⟩)
        have d1 : decide (t0 < x0) = true := decide_eq_true hgt
        have d2 : ((A : Int) == (len : Int)) = false := by simp; omega
        have d3 : decide ((A : Int) = (len : Int)) = false := by simp; omega
        clear hA hne hne' hA2 hx hx0 heq hB hbx
        go_wp2
        go_roundw
        case rel => exact ⟨k + 1, A, by omega, by go_num, rfl, rfl, HQ.out.1, .inr ⟨by have := HQ.out.2.1.1; omega, HQ.out.2.1.2⟩, blk_alloc HQ.out.2.2.2 _, HQ.out.2.2.1.alloc hsz _⟩
        case measure => simp [intOf]; omega
    · have hA2 : A = len ∧ (∀ j, j < k + 1 → (nthT l j).1 < t0) ∨ A < k + 1 ∧ t0 < (nthT l A).1 ∧ ∀ j, j < A → (nthT l j).1 < t0 := by
        rcases hA with ⟨h, h2⟩ | ⟨h, h2⟩
        · refine .inl ⟨h, fun j hj => ?_⟩
          by_cases e : j = k
          · rw [e, ← hx0]; omega
          · exact h2 j (by omega)
        · exact .inr ⟨by omega, h2⟩
      have HQ := Lib.hid (show _ ∧ _ ∧ _ ∧ _ from ⟨hne', hA2, hB, hbx⟩)
      have d1 : decide (t0 < x0) = false := decide_eq_false hgt
      clear hA hne hne' hA2 hx hx0 heq hB hbx
      go_wp2
      go_roundw
      case rel => exact ⟨k + 1, A, by omega, by go_num, rfl, rfl, HQ.out.1, HQ.out.2.1, blk_alloc HQ.out.2.2.2 _, HQ.out.2.2.1.alloc hsz _⟩
      case measure => simp [intOf]; omega
end Go.Proofs.Ytcgndcapdodhlaa
