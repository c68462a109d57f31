/- The walk of SpeedBetween (layer 26). -/
import Derived.Test.YtipjogicjgkgjaaSpLawBack
import Derived.Test.YtipjogicjgkgjaaOwnRow
import Derived.StillTailTactics
namespace Go.Proofs.Ytipjogicjgkgjaa
open Go.ChangeShapes Go.WideShapes Go.ChangeAt Go.RowKit

/-- A sample lies between the two elements next to its place. -/
theorem smp_btw {l : List Int} {a b : Int} {n i q : Nat} (b1 : 1 ≤ b) (hq : (i : Int) * a / b = (q : Int)) (hq1 : (i : Int) * a % b ≠ 0 → q + 1 < n) (nx : Nat) (hnx : nx = min (q + 1) (n - 1)) :
    clip (min (l.getD q 0) (l.getD nx 0)) ≤ smpI l a b i ∧ smpI l a b i ≤ clip (max (l.getD q 0) (l.getD nx 0)) := by
  have m0 : 0 ≤ (i : Int) * a % b := Int.emod_nonneg _ (by omega)
  have m1 : (i : Int) * a % b < b := Int.emod_lt_of_pos _ (by omega)
  unfold smpI sV
  rw [hq, Int.toNat_natCast]
  by_cases h : (i : Int) * a % b = 0
  · rw [if_pos h]; unfold clip; omega
  · have := hq1 h
    obtain rfl : nx = q + 1 := by omega
    rw [if_neg h]
    unfold lineV
    have h := line_in (a := clip (l.getD q 0)) (b := clip (l.getD (q + 1) 0)) b1 m0 (by omega)
    generalize clip (l.getD q 0) + (clip (l.getD (q + 1) 0) - clip (l.getD q 0)) * ((i : Int) * a % b) / b = y at *
    unfold clip at h ⊢
    omega
/-- What does not lie next to its place does not matter. -/
theorem smp_near {l l2 : List Int} {a b : Int} {n i q : Nat} (hq : (i : Int) * a / b = (q : Int)) (hq1 : (i : Int) * a % b ≠ 0 → q + 1 < n) (nx : Nat) (hnx : nx = min (q + 1) (n - 1)) (h1 : l2.getD q 0 = l.getD q 0) (h2 : l2.getD nx 0 = l.getD nx 0) :
    smpI l2 a b i = smpI l a b i := by
  unfold smpI sV
  rw [hq, Int.toNat_natCast, h1]
  by_cases h : (i : Int) * a % b = 0
  · rw [if_pos h, if_pos h]
  · have := hq1 h
    obtain rfl : nx = q + 1 := by omega
    rw [if_neg h, if_neg h, h2]
/-- The elements that do not lie next to the place are others, as far as j. -/
def nearL (l l' : List Int) (n n' q nx j : Nat) : List Int := (List.range n).map fun i => if i < j ∧ i ≠ q ∧ i ≠ nx ∧ i < n' then l'.getD i 0 else l.getD i 0
theorem nearL_len (l l' : List Int) (n n' q nx j : Nat) : (nearL l l' n n' q nx j).length = n := by simp [nearL]
theorem nearL_at {l l' : List Int} {n n' q nx j i : Nat} (h : i < n) : (nearL l l' n n' q nx j)[i]? = some (if i < j ∧ i ≠ q ∧ i ≠ nx ∧ i < n' then l'.getD i 0 else l.getD i 0) := by
  unfold nearL
  rw [List.getElem?_map, List.getElem?_range h]
  rfl
theorem nearL_zero {l l' : List Int} {n n' q nx : Nat} (h : l.length = n) : nearL l l' n n' q nx 0 = l := by
  apply List.ext_getElem?
  intro i
  by_cases hi : i < n
  · rw [nearL_at hi, if_neg (by omega), List.getD_eq_getElem?_getD, List.getElem?_eq_getElem (by omega)]
    rfl
  · rw [List.getElem?_eq_none (by rw [nearL_len]; omega), List.getElem?_eq_none (by omega)]
theorem nearL_keep {l l' : List Int} {n n' q nx j : Nat} (h : j = q ∨ j = nx ∨ n' ≤ j) : nearL l l' n n' q nx (j + 1) = nearL l l' n n' q nx j := by
  apply List.ext_getElem?
  intro i
  by_cases hi : i < n
  · rw [nearL_at hi, nearL_at hi]
    by_cases g : i = j
    · rw [if_neg (by omega), if_neg (by omega)]
    · congr 1
      by_cases g2 : i < j ∧ i ≠ q ∧ i ≠ nx ∧ i < n'
      · rw [if_pos (by omega), if_pos g2]
      · rw [if_neg (by omega), if_neg g2]
  · rw [List.getElem?_eq_none (by rw [nearL_len]; omega), List.getElem?_eq_none (by rw [nearL_len]; omega)]
theorem nearL_set {l l' : List Int} {n n' q nx j : Nat} (h1 : j ≠ q) (h2 : j ≠ nx) (h3 : j < n') : (nearL l l' n n' q nx j).set j (l'.getD j 0) = nearL l l' n n' q nx (j + 1) := by
  apply List.ext_getElem?
  intro i
  by_cases hi : i < n
  · by_cases g : i = j
    · subst g
      rw [List.getElem?_set_self (by rw [nearL_len]; exact hi), nearL_at hi, if_pos (by omega)]
    · rw [List.getElem?_set_ne (Ne.symm g), nearL_at hi, nearL_at hi]
      congr 1
      by_cases g2 : i < j ∧ i ≠ q ∧ i ≠ nx ∧ i < n'
      · rw [if_pos g2, if_pos (by omega)]
      · rw [if_neg g2, if_neg (by omega)]
  · rw [List.getElem?_eq_none (by rw [List.length_set, nearL_len]; omega), List.getElem?_eq_none (by rw [nearL_len]; omega)]
theorem nearL_place {l l' : List Int} {n n' q nx j i : Nat} (hi : i < n) (h : i = q ∨ i = nx) : (nearL l l' n n' q nx j).getD i 0 = l.getD i 0 := by
  rw [List.getD_eq_getElem?_getD, nearL_at hi, if_neg (by omega)]
  rfl
theorem Ints.stored {w : World} {B g n c : Nat} {l : List Int} (hn : l.length = n) (h : Ints w B (.slice (some ⟨g, 0, none⟩) n c) l) (i : Nat) (x : Int) : Ints (w.setCell ⟨g, i, none⟩ (.int .i64 x)) B (.slice (some ⟨g, 0, none⟩) n c) (l.set i x) := by
  subst hn
  have h1 := (World.ownsRow.stored h i (.int .i64 x)).1
  unfold Ints
  rw [List.length_set, List.map_set]
  exact h1
theorem Ints.freeAt {w : World} {B g n c : Nat} {l : List Int} (h : Ints w B (.slice (some ⟨g, 0, none⟩) n c) l) (hn : l.length = n) (i : Nat) : w.frozen? ⟨g, i, none⟩ = false := by
  subst hn
  exact World.ownsRow.frozenAt h i
theorem Ints.inBlock {w : World} {B n : Nat} {v : Value} {l : List Int} (h : Ints w B v l) (hl : l.length = n) (hn : 0 < n) : ∃ g c, v = .slice (some ⟨g, 0, none⟩) n c ∧ B ≤ g := by
  subst hl
  rcases h.2 with ⟨_, h0⟩ | ⟨g, cap, cur, h1, h2, _⟩
  · omega
  · exact ⟨g, cap, h1, h2⟩
theorem Ints.cellAt {w : World} {B g n c : Nat} {l : List Int} (h : Ints w B (.slice (some ⟨g, 0, none⟩) n c) l) (hn : l.length = n) (i : Nat) (hi : i < n) : w.cell? ⟨g, i, none⟩ = some (.int .i64 (l.getD i 0)) := by
  subst hn
  rw [World.ownsRow.cellAt h i (by omega)]
  simp [List.getD_eq_getElem?_getD, hi]

theorem lenR_n {n : Nat} {a b : Int} (hs : Spd a b) (hn : n ≤ 60) : lenR n a b = lenV n a b ∧ lenE n a b = 0 := lenR_ok ⟨hs, by omega, by omega⟩

set_option maxRecDepth 100000 in
set_option maxHeartbeats 8000000 in
theorem speedBetween_walk (a a' : Option Addr) (b b' off off' n n' cap cap' : Nat) (l l' : List Int) (aa bb : Int) (w : World) (hR : Row w a b off n l) (hR' : Row w a' b' off' n' l') (hnc : a = none → cap = 0) :
    Calls Try.prog 6 #[.slice a n cap, .slice a' n' cap', .int .i64 aa, .int .i64 bb] w fun e w' => e = .returned (.bool true) ∧ Below w.heap.size w w' := by
  have hB := Below.refl w.heap.size w
  have Ra := hR
  have Rb := hR'
  clear hR hR'
  go_enter Try.func6, Try.ntmps6
  go_wp2_with fail
  refine (sane_any _).mono ?_; rintro e w0 ⟨rfl, hb⟩
  replace Ra := Ra.below hb (Nat.le_refl _)
  replace Rb := Rb.below hb (Nat.le_refl _)
  replace hB := below_after hB hb hB.size
  clear hb
  by_cases hk : 60 < n
  · have hd : decide ((n : Int) ≤ 60) = false := decide_eq_false (by omega)
    go_wp2_with fail
    refine (few_any _ _ _ _).mono ?_; rintro e w' ⟨rfl, rfl⟩; rw [hd]
    go_wp2
    go_ret
    exact ⟨rfl, hB⟩
  have hd : decide ((n : Int) ≤ 60) = true := decide_eq_true (by omega)
  go_wp2_with fail
  refine (few_any _ _ _ _).mono ?_; rintro e w' ⟨rfl, rfl⟩; rw [hd]
  by_cases hk' : 60 < n'
  · have hd : decide ((n' : Int) ≤ 60) = false := decide_eq_false (by omega)
    go_wp2_with fail
    refine (few_any _ _ _ _).mono ?_; rintro e w' ⟨rfl, rfl⟩; rw [hd]
    go_wp2
    go_ret
    exact ⟨rfl, hB⟩
  have hd' : decide ((n' : Int) ≤ 60) = true := decide_eq_true (by omega)
  go_wp2_with fail
  refine (few_any _ _ _ _).mono ?_; rintro e w' ⟨rfl, rfl⟩; rw [hd']
  by_cases hs' : Spd aa bb
  · have e1 := lenR_n (n := n) hs' (by omega)
    obtain ⟨M, hM⟩ : ∃ M : Nat, lenV n aa bb = (M : Int) := ⟨_, (lenV_fits hs' (by omega)).1⟩
    have hM3 : M ≤ 3840 := by have := lenV_small (n := n) hs' (by omega); rw [hM] at this; omega
    go_wp2_with fail
    refine (convert_ok _ b off _ _ M l _ _ _ Ra (by omega) hs' hM (by omega)).mono ?_; rintro e w1 ⟨v1, rfl, hO, hb⟩
    obtain ⟨a4, b4, c4, rfl, RX, -, -⟩ := hO.row
    rw [convL_len] at RX ⊢
    replace Ra := Ra.below hb (Nat.le_refl _)
    replace Rb := Rb.below hb (Nat.le_refl _)
    replace hB := below_after hB hb hB.size
    clear hb hO
    go_wp2_with fail
    refine (len_any _ _ _ _).mono ?_; rintro e w' ⟨rfl, rfl⟩; rw [e1.1, e1.2, hM]
    have HS := Lib.hid hs'
    obtain ⟨⟨a1, a2⟩, ⟨b1, b2⟩, hg⟩ := hs'
    clear hg
    have HB := Lib.hid hB; clear hB
    have HR := Lib.hid (show _ ∧ _ ∧ _ from ⟨Ra, Rb, RX⟩); clear Ra Rb RX
    -- LOOP
    go_wp2
    go_loopw [77] (fun i wr => ∃ p : Nat, p ≤ M ∧ i = .int .i64 p ∧ Below w1.heap.size w1 wr) (fun i _ => M - (intOf i).toNat)
    case atStart => exact ⟨0, Nat.zero_le _, rfl, Below.refl _ _⟩
    case round =>
      obtain ⟨p, hp, rfl, hB⟩ := hrel
      by_cases hlt : p < M
      · obtain ⟨q, hq, hqn, hq1, p0⟩ := place_ok (n := n) (i := p) a1 b1 (by rw [hM]; omega)
        obtain rfl := HR.out.1.adr (by omega)
        obtain rfl := HR.out.2.2.adr (by omega)
        have hcx := (HR.out.2.2.below hB (Nat.le_refl _)).cel p hlt
        have hv : (convL l aa bb M).getD p 0 = smpI l aa bb p := by
          unfold convL
          rw [List.getD_eq_getElem?_getD, List.getElem?_map, List.getElem?_range hlt]
          rfl
        rw [hv, Nat.zero_add] at hcx
        have p1 : (p : Int) * aa ≤ 3840 * 64 := Int.mul_le_mul (by omega) a2 (by omega) (by omega)
        have zb : (bb == 0) = false := by simp; omega
        have zb2 : ¬ bb = 0 := by omega
        have td : ((p : Int) * aa).tdiv bb = (q : Int) := by rw [Int.tdiv_eq_ediv_of_nonneg p0, hq]
        have zw : IntKind.i64.wrap ((p : Int) * aa) = (p : Int) * aa := by rw [IntKind.wrap_i64]; omega
        have zq : IntKind.i64.wrap (q : Int) = (q : Int) := by rw [IntKind.wrap_i64]; omega
        obtain ⟨e, he⟩ : ∃ e : Nat, e = q + 1 := ⟨_, rfl⟩
        obtain ⟨g, hg⟩ : ∃ g : Nat, g + 1 = n := ⟨n - 1, by omega⟩
        have z1 : IntKind.i64.wrap ((q : Int) + 1) = (e : Int) := by rw [IntKind.wrap_i64]; omega
        have z2 : IntKind.i64.wrap ((n : Int) - 1) = (g : Int) := by rw [IntKind.wrap_i64]; omega
        obtain ⟨nx, hnx⟩ : ∃ nx, nx = min (q + 1) (n - 1) := ⟨_, rfl⟩
        have hnn : nx < n := by omega
        obtain ⟨m1, m2⟩ := smp_btw (l := l) b1 hq hq1 nx hnx
        have hnear := fun l2 => smp_near (l := l) (l2 := l2) hq hq1 nx hnx
        have hcq := (HR.out.1.below hB (Nat.le_refl _)).cel q hqn
        have hcn := (HR.out.1.below hB (Nat.le_refl _)).cel nx hnn
        have RA := HR.out.1.below hB (Nat.le_refl _)
        have HK := Lib.hid (show _ ∧ _ ∧ _ from ⟨hB, RA, hnear⟩)
        clear RA hv hnear
        have hsz := hB.size
        clear hB
        obtain ⟨v, hvv⟩ : ∃ v, v = smpI l aa bb p := ⟨_, rfl⟩
        rw [← hvv] at m1 m2 hcx
        have HV := Lib.hid hvv; clear hvv
        generalize hxe : l.getD q 0 = x at *
        generalize hye : l.getD nx 0 = y at *
        have HXE := Lib.hid (show _ ∧ _ from ⟨hxe, hye⟩); clear hxe hye
        have d1 : decide (v < clip (min x y)) = false := decide_eq_false (by omega)
        have d2 : decide (clip (max x y) < v) = false := decide_eq_false (by omega)
        have HQ := Lib.hid (show _ ∧ _ from ⟨hq, hq1⟩); clear hq hq1
        obtain ⟨mn, hmn⟩ : ∃ mn, mn = min x y := ⟨_, rfl⟩
        obtain ⟨mx, hmx⟩ : ∃ mx, mx = max x y := ⟨_, rfl⟩
        rw [← hmn] at d1
        rw [← hmx] at d2
        have hxy : (x ≤ y ∧ mn = x ∧ mx = y) ∨ (y < x ∧ mn = y ∧ mx = x) := by omega
        have HXY := Lib.hid hxy
        have hen : (e ≤ g ∧ nx = e) ∨ (g < e ∧ nx = g) := by omega
        clear m1 m2 hmn hmx hxy
        have HN := Lib.hid hnx; clear hnx
        have hq3 : (q : Int) < (n : Int) := by omega
        have hn3 : (nx : Int) < (n : Int) := by omega
        rcases hen with ⟨hen, rfl⟩ | ⟨hen, rfl⟩
        all_goals
          have HE := Lib.hid (show _ ∧ _ from ⟨he, hg⟩); clear he hg
          go_wp2_with fail
  
          refine wp_region_from 0 9 (fun w' => w'.cell? ⟨b, off + q, none⟩ = some (.int .i64 x) ∧ w'.cell? ⟨b, off + nx, none⟩ = some (.int .i64 y)) (by kernel_rfl) (by kernel_rfl) (by decide) (by kernel_rfl) ⟨hcq, hcn⟩ ?_
          simp only [List.drop_zero, List.take_succ_cons, List.take_zero]
          refine wpHeld_cons (.slice (some ⟨b, off, none⟩) n cap) (by kernel_rfl) ?_ ?_
          · rintro w' ⟨s0, s1⟩
            try go_simp
            try (first | omega | (intro h; exfalso; omega))
          refine wpHeld_cons (.int .i64 (q : Int)) (by kernel_rfl) ?_ ?_
          · rintro w' ⟨s0, s1⟩
            try go_simp
            try (first | omega | (intro h; exfalso; omega))
          refine wpHeld_cons (.pointer (some ⟨b, off + q, none⟩)) (by kernel_rfl) ?_ ?_
          · rintro w' ⟨s0, s1⟩
            try go_simp
            try (first | omega | (intro h; exfalso; omega))
          refine wpHeld_cons (.int .i64 x) (by kernel_rfl) ?_ ?_
          · rintro w' ⟨s0, s1⟩
            try go_simp
            try (first | omega | (intro h; exfalso; omega))
          refine wpHeld_cons (.slice (some ⟨b, off, none⟩) n cap) (by kernel_rfl) ?_ ?_
          · rintro w' ⟨s0, s1⟩
            try go_simp
            try (first | omega | (intro h; exfalso; omega))
          refine wpHeld_cons (.int .i64 (nx : Int)) (by kernel_rfl) ?_ ?_
          · rintro w' ⟨s0, s1⟩
            try go_simp
            try (first | omega | (intro h; exfalso; omega))
          refine wpHeld_cons (.pointer (some ⟨b, off + nx, none⟩)) (by kernel_rfl) ?_ ?_
          · rintro w' ⟨s0, s1⟩
            try go_simp
            try (first | omega | (intro h; exfalso; omega))
          refine wpHeld_cons (.int .i64 y) (by kernel_rfl) ?_ ?_
          · rintro w' ⟨s0, s1⟩
            try go_simp
            try (first | omega | (intro h; exfalso; omega))
          refine wpHeld_cons (.int .i64 mn) (by kernel_rfl) ?_ ?_
          · rintro w' ⟨s0, s1⟩
            rcases HXY.out with ⟨hh, rfl, rfl⟩ | ⟨hh, rfl, rfl⟩
            all_goals
              try go_simp
              try (first | omega | (intro h; exfalso; omega))
          refine wpHeld_nil ?_
          go_simp
          refine wpAnyH_from 10 9 (fun _ _ _ _ _ h => h) (by kernel_rfl) (by decide) (by kernel_rfl) ⟨hcq, hcn⟩ ?_
          simp only [List.drop_succ_cons, List.drop_zero, List.take_succ_cons, List.take_zero]
          refine wpHeld_cons (.slice (some ⟨b, off, none⟩) n cap) (by kernel_rfl) ?_ ?_
          · rintro w' ⟨s0, s1⟩
            try go_simp
            try (first | omega | (intro h; exfalso; omega))
          refine wpHeld_cons (.int .i64 (q : Int)) (by kernel_rfl) ?_ ?_
          · rintro w' ⟨s0, s1⟩
            try go_simp
            try (first | omega | (intro h; exfalso; omega))
          refine wpHeld_cons (.pointer (some ⟨b, off + q, none⟩)) (by kernel_rfl) ?_ ?_
          · rintro w' ⟨s0, s1⟩
            try go_simp
            try (first | omega | (intro h; exfalso; omega))
          refine wpHeld_cons (.int .i64 x) (by kernel_rfl) ?_ ?_
          · rintro w' ⟨s0, s1⟩
            try go_simp
            try (first | omega | (intro h; exfalso; omega))
          refine wpHeld_cons (.slice (some ⟨b, off, none⟩) n cap) (by kernel_rfl) ?_ ?_
          · rintro w' ⟨s0, s1⟩
            try go_simp
            try (first | omega | (intro h; exfalso; omega))
          refine wpHeld_cons (.int .i64 (nx : Int)) (by kernel_rfl) ?_ ?_
          · rintro w' ⟨s0, s1⟩
            try go_simp
            try (first | omega | (intro h; exfalso; omega))
          refine wpHeld_cons (.pointer (some ⟨b, off + nx, none⟩)) (by kernel_rfl) ?_ ?_
          · rintro w' ⟨s0, s1⟩
            try go_simp
            try (first | omega | (intro h; exfalso; omega))
          refine wpHeld_cons (.int .i64 y) (by kernel_rfl) ?_ ?_
          · rintro w' ⟨s0, s1⟩
            try go_simp
            try (first | omega | (intro h; exfalso; omega))
          refine wpHeld_cons (.int .i64 mx) (by kernel_rfl) ?_ ?_
          · rintro w' ⟨s0, s1⟩
            rcases HXY.out with ⟨hh, rfl, rfl⟩ | ⟨hh, rfl, rfl⟩
            all_goals
              try go_simp
              try (first | omega | (intro h; exfalso; omega))
          refine wpHeld_nil ?_
          go_simp
          refine wpAnyH_one (i := 9) (by kernel_rfl) rfl (by kernel_rfl) (fun K' hK' => ?_)
          go_simp
          refine (clip_any _ _).mono ?_
          rintro e w' ⟨rfl, rfl⟩
          refine hK' _ _ ⟨hcq, hcn⟩ ?_
          clear hK' K'
          refine wpAnyH_one (i := 19) (by kernel_rfl) rfl (by kernel_rfl) (fun K' hK' => ?_)
          go_simp
          refine (clip_any _ _).mono ?_
          rintro e w' ⟨rfl, rfl⟩
          refine hK' _ _ ⟨hcq, hcn⟩ ?_
          clear hK' K'
          refine wpAnyH_from 20 2 (fun _ _ _ _ _ h => h) (by kernel_rfl) (by decide) (by kernel_rfl) ⟨hcq, hcn⟩ ?_
          simp only [List.drop_succ_cons, List.drop_zero, List.take_succ_cons, List.take_zero]
          refine wpHeld_cons (.int .i64 (clip mn)) (by kernel_rfl) ?_ ?_
          · rintro w' ⟨s0, s1⟩
            try go_simp
            try (first | omega | (intro h; exfalso; omega))
          refine wpHeld_cons (.int .i64 (clip mx)) (by kernel_rfl) ?_ ?_
          · rintro w' ⟨s0, s1⟩
            try go_simp
            try (first | omega | (intro h; exfalso; omega))
          refine wpHeld_nil ?_
          go_simp
          refine wpAnyH_done (by kernel_rfl) ?_ _
          refine NoPanic.normal ?_
          go_wp2_with fail
          refine (at_ok _ b off _ _ l _ _ _ _ (HK.out.2.1.below ((Below.refl _ _).drew) (Nat.le_refl _)) (by omega) HS.out (by omega) (by rw [hM]; omega)).mono ?_; rintro e w2 ⟨rfl, hb⟩
          rw [Int.toNat_natCast, ← HV.out]
          have hB2 : Below w1.heap.size w1 w2 := below_after (HK.out.1.drew) hb hsz
          have hsz2 := hB2.size
          clear hb hcx hcq hcn
          by_cases hp7 : p % 7 = 0
          · have t7 : (p : Int) % 7 = 0 := by omega
            have RA2 := HR.out.1.below hB2 (Nat.le_refl _)
            have HB2 := Lib.hid (show _ ∧ _ from ⟨hB2, RA2⟩); clear hB2 RA2 hp7
            go_wp2_with (at_builtin; refine wpList_append_row rfl (.tmp 149) (.tmp 150) rfl w2.heap.size _ [] rfl (Ints.empty w2) _ b off _ _ l rfl (HB2.out.2.below ((Below.refl _ _).alloc (Nat.le_refl _) _) (Nat.le_refl _)) (fun h => by cases h) (by simp; omega) (by simp) ?_; intro v1 w3 hO1 hB1 hgx; clear hgx; have hC1 := ((Below.refl w2.heap.size w2).alloc (Nat.le_refl _) _).trans hB1; rw [List.nil_append] at hO1; obtain ⟨gb, cp, rfl, hgb⟩ := hO1.inBlock HR.out.1.len (by omega))
            have HO := Lib.hid (show _ ∧ _ from ⟨hO1, hC1⟩)
            clear hO1 hB1 hC1
            go_loopw [154] (fun i W => ∃ j : Nat, j ≤ n ∧ i = .int .i64 j ∧ Ints W w2.heap.size (.slice (some ⟨gb, 0, none⟩) n cp) (nearL l l' n n' q nx j) ∧ Below w2.heap.size w2 W) (fun i _ => n - (intOf i).toNat)
            case atStart => exact ⟨0, Nat.zero_le _, rfl, by rw [nearL_zero HR.out.1.len]; exact HO.out.1, HO.out.2⟩
            case round =>
              obtain ⟨j, hj, rfl, hI, hW⟩ := hrel
              by_cases hlj : j < n
              · have dn := hI.cellAt (nearL_len _ _ _ _ _ _ _) j hlj
                have df := hI.freeAt (nearL_len _ _ _ _ _ _ _) j
                by_cases hc : j ≠ q ∧ j ≠ nx ∧ j < n'
                · obtain rfl := HR.out.2.1.adr (by omega)
                  have hco := ((HR.out.2.1.below HB2.out.1 (Nat.le_refl _)).below hW (Nat.le_refl _)).cel j hc.2.2
                  have y1 : ((j : Int) != (q : Int)) = true := bne_iff_ne.2 (by omega)
                  have y2 : ((j : Int) != (nx : Int)) = true := bne_iff_ne.2 (by omega)
                  have y3 : (j : Int) < (n' : Int) := by omega
                  have y4 : (j : Int) < (n : Int) := by omega
                  have hS := nearL_set (l := l) (l' := l') (n := n) hc.1 hc.2.1 hc.2.2
                  have hT := hI.stored (nearL_len _ _ _ _ _ _ _) j (l'.getD j 0)
                  rw [hS] at hT
                  generalize l'.getD j 0 = u at *
                  have HT := Lib.hid (show _ ∧ _ from ⟨hT, hW⟩); clear hT hW hS hI hc
                  go_wp2
                  go_roundw
                  case rel => exact ⟨j + 1, by omega, by go_num, HT.out.1, HT.out.2.setCell (p := ⟨gb, j, none⟩) hgb _⟩
                  case measure => simp [intOf]; omega
                · have hkp := nearL_keep (l := l) (l' := l') (n := n) (n' := n') (q := q) (nx := nx) (j := j) (by omega)
                  rw [← hkp] at hI
                  have HT := Lib.hid (show _ ∧ _ from ⟨hI, hW⟩); clear hI hW hkp dn df
                  rcases (show j = q ∨ (j ≠ q ∧ j = nx) ∨ (j ≠ q ∧ j ≠ nx ∧ n' ≤ j) by omega) with y1 | ⟨y1, y2⟩ | ⟨y1, y2, y3⟩
                  · have z1 : ((j : Int) != (q : Int)) = false := by rw [bne_eq_false_iff_eq]; omega
                    clear hc y1
                    go_wp2
                    go_roundw
                    case rel => exact ⟨j + 1, by omega, by go_num, HT.out.1, HT.out.2⟩
                    case measure => simp [intOf]; omega
                  · have z1 : ((j : Int) != (q : Int)) = true := bne_iff_ne.2 (by omega)
                    have z2 : ((j : Int) != (nx : Int)) = false := by rw [bne_eq_false_iff_eq]; omega
                    clear hc y1 y2
                    go_wp2
                    go_roundw
                    case rel => exact ⟨j + 1, by omega, by go_num, HT.out.1, HT.out.2⟩
                    case measure => simp [intOf]; omega
                  · have z1 : ((j : Int) != (q : Int)) = true := bne_iff_ne.2 (by omega)
                    have z2 : ((j : Int) != (nx : Int)) = true := bne_iff_ne.2 (by omega)
                    have y3' : ¬ (j : Int) < (n' : Int) := by omega
                    clear hc y1 y2
                    go_wp2
                    go_roundw
                    case rel => exact ⟨j + 1, by omega, by go_num, HT.out.1, HT.out.2⟩
                    case measure => simp [intOf]; omega
              · obtain rfl : j = n := by omega
                obtain ⟨a9, b9, c9, hv9, R9, -, -⟩ := hI.row
                simp only [Value.slice.injEq] at hv9
                obtain ⟨rfl, -, rfl⟩ := hv9
                rw [nearL_len] at R9
                have hsm := HK.out.2.2 (nearL l l' j n' q nx j) ((nearL_place hqn (.inl rfl)).trans HXE.out.1) ((nearL_place hnn (.inr rfl)).trans HXE.out.2)
                have hBW := below_after HB2.out.1 hW hsz2
                clear hI hW
                go_wp2_with fail
                refine (at_ok _ b9 _ _ _ (nearL l l' j n' q nx j) _ _ _ _ R9 (by omega) HS.out (by omega) (by rw [hM]; omega)).mono ?_; rintro e w5 ⟨rfl, hb⟩
                rw [Int.toNat_natCast, hsm, ← HV.out]
                have hBZ := below_after hBW hb hBW.size
                clear hb hBW R9 hsm
                have HZ := Lib.hid hBZ; clear hBZ
                go_wp2
                go_roundw
                case rel => exact ⟨p + 1, by omega, by go_num, HZ.out⟩
                case measure => simp [intOf]; omega
          · have t7 : ((p : Int) % 7 == 0) = false := by rw [beq_eq_false_iff_ne]; omega
            have t7' : ¬ (p : Int) % 7 = 0 := by omega
            clear hp7
            have HB2 := Lib.hid hB2; clear hB2
            go_wp2
            go_roundw
            case rel => exact ⟨p + 1, by omega, by go_num, HB2.out⟩
            case measure => simp [intOf]; omega
      · obtain rfl : p = M := by omega
        go_wp2
        go_ret
        exact ⟨rfl, below_after HB.out hB HB.out.size⟩
  · go_wp2_with fail
    refine (convert_no _ _ _ _ _ _ hs').mono ?_; rintro e w1 ⟨rfl, hb⟩
    replace hB := below_after hB hb hB.size
    clear hb
    go_wp2
    go_ret
    exact ⟨rfl, hB⟩
end Go.Proofs.Ytipjogicjgkgjaa
