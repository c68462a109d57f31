/- DiskTogether (layer 4). -/
import Derived.Test.YtbimmahlcceadaaDskSane
import Derived.Test.YtbimmahlcceadaaDskRunM
import Derived.Test.YtbimmahlcceadaaDskFar2
import Derived.Test.YtbimmahlcceadaaOpenSA
import Derived.Test.YtbimmahlcceadaaDskFew0
import Derived.Deep.CutRange
namespace Go.Proofs.Ytbimmahlcceadaa
open Go.ChangeShapes Go.WideShapes Go.ChangeAt Go.RowKit
def tornA (S : List Sl) (l : List At) (n m i : Nat) : List Int := if atA l n m = i then tornL (dataA l m) (contA S l n m i) else contA S l n m i
/-- x, not stopped. -/
def XOk (S : List Sl) (l : List At) (lf : Int) (lo hi b5 n k : Nat) (w : World) : Prop := ∃ (sa : Option Addr) (sb so sc : Nat) (pa : Option Addr) (pc : Nat) (Sx : List Sl), w.heap[b5]? = some (.cells #[.slice sa n sc, .slice pa 0 pc, .int .i64 (leftA lf k), .bool false] 25 (0, 0)) ∧ SecsF w lo hi sa sb so n Sx ∧ (sa = none → sc = 0) ∧ ∀ i, i < n → (nS Sx i).2.2 = contA S l n k i
/-- x, stopped in a write. -/
def XTorn (S : List Sl) (l : List At) (lf : Int) (lo hi b5 n : Nat) (w : World) : Prop := ∃ (sa : Option Addr) (sb so sc : Nat) (Sx : List Sl), w.heap[b5]? = some (.cells #[.slice sa n sc, .slice none 0 0, .int .i64 0, .bool true] 25 (0, 0)) ∧ SecsF w lo hi sa sb so n Sx ∧ ∀ i, i < n → (nS Sx i).2.2 = tornA S l n lf.toNat i
def XRel (S : List Sl) (l : List At) (lf : Int) (lo hi b5 n an k : Nat) (E : Int) (w : World) : Prop := (E = 0 ∧ (lf = -1 ∨ (k : Int) ≤ lf) ∧ XOk S l lf lo hi b5 n k w) ∨ (E = 40 ∧ 0 ≤ lf ∧ lf < (an : Int) ∧ XTorn S l lf lo hi b5 n w)
theorem XOk.upd {S : List Sl} {l : List At} {lf : Int} {lo hi b5 n k : Nat} {w w' : World} (h : XOk S l lf lo hi b5 n k w) (u : UpdR lo hi w w') (hb : w'.heap[b5]? = w.heap[b5]?) : XOk S l lf lo hi b5 n k w' := by
  obtain ⟨sa, sb, so, sc, pa, pc, Sx, h1, h2, h3⟩ := h
  exact ⟨sa, sb, so, sc, pa, pc, Sx, hb.trans h1, h2.upd u, h3⟩
theorem XTorn.upd {S : List Sl} {l : List At} {lf : Int} {lo hi b5 n : Nat} {w w' : World} (h : XTorn S l lf lo hi b5 n w) (u : UpdR lo hi w w') (hb : w'.heap[b5]? = w.heap[b5]?) : XTorn S l lf lo hi b5 n w' := by
  obtain ⟨sa, sb, so, sc, Sx, h1, h2, h3⟩ := h
  exact ⟨sa, sb, so, sc, Sx, hb.trans h1, h2.upd u, h3⟩
theorem XRel.upd {S : List Sl} {l : List At} {lf : Int} {lo hi b5 n an k : Nat} {E : Int} {w w' : World} (h : XRel S l lf lo hi b5 n an k E w) (u : UpdR lo hi w w') (hb : w'.heap[b5]? = w.heap[b5]?) : XRel S l lf lo hi b5 n an k E w' := by
  rcases h with ⟨h1, h2, h3⟩ | ⟨h1, h2, h3, h4⟩
  · exact .inl ⟨h1, h2, h3.upd u hb⟩
  · exact .inr ⟨h1, h2, h3, h4.upd u hb⟩
theorem UpdR.of_below {lo hi : Nat} {w w' : World} (h : Below w.heap.size w w') : UpdR lo hi w w' := ⟨h.size, fun q hq _ => h.block q hq⟩
theorem XRel.below {S : List Sl} {l : List At} {lf : Int} {lo hi b5 n an k : Nat} {E : Int} {w w' : World} (h : XRel S l lf lo hi b5 n an k E w) (hb : Below w.heap.size w w') (h5 : b5 < w.heap.size) : XRel S l lf lo hi b5 n an k E w' := h.upd (UpdR.of_below hb) (hb.block b5 h5)
theorem leftA_zero {lf : Int} : leftA lf 0 = lf := by unfold leftA; split <;> omega
theorem leftA_succ {lf : Int} {k : Nat} (h : lf = -1 ∨ ((k + 1 : Nat) : Int) ≤ lf) : (if leftA lf k = -1 then -1 else leftA lf k - ((1 : Nat) : Int)) = leftA lf (k + 1) := by
  unfold leftA
  split <;> split <;> first | omega | (split <;> omega)
theorem cont_step {S Sx : List Sl} {l : List At} {n k : Nat} {Y : Sl} (hl : Sx.length = n) (h : ∀ i, i < n → (nS Sx i).2.2 = contA S l n k i) (hY : Y.2.2 = dataA l k) : ∀ i, i < n → (nS (Sx.set (atA l n k) Y) i).2.2 = contA S l n (k + 1) i := fun i hi => by
  unfold contA
  by_cases e : atA l n k = i
  · rw [if_pos e, ← e, nS_set (by rw [hl, e]; exact hi), hY]
  · rw [if_neg e, nS_set_ne (Ne.symm e), h i hi]
theorem torn_step {S Sx : List Sl} {l : List At} {n m : Nat} {Y3 : Sl} (hl : Sx.length = n) (h : ∀ i, i < n → (nS Sx i).2.2 = contA S l n m i) (hY : Y3.2.2 = tornL (dataA l m) (nS Sx (atA l n m)).2.2) : ∀ i, i < n → (nS (Sx.set (atA l n m) Y3) i).2.2 = tornA S l n m i := fun i hi => by
  unfold tornA
  by_cases e : atA l n m = i
  · rw [if_pos e, ← e, nS_set (by rw [hl, e]; exact hi), hY, h _ (by rw [e]; exact hi)]
  · rw [if_neg e, nS_set_ne (Ne.symm e), h i hi]
/-- y: what is written so far. -/
def YRel (l : List At) (lf : Int) (sa : Option Addr) (sc lo hi b6 n j : Nat) (w : World) : Prop := ∃ (ra : Option Addr) (rb rc : Nat) (P : List Wr), w.heap[b6]? = some (.cells #[.slice sa n sc, .slice ra j rc, .int .i64 lf, .bool false] 25 (0, 0)) ∧ PensF w lo hi ra rb 0 j P ∧ j ≤ rc ∧ PensA P l n j
theorem XRel.fin {S : List Sl} {l : List At} {lf : Int} {lo hi b5 n an k : Nat} {E : Int} {w : World} (h : XRel S l lf lo hi b5 n an k E w) (hk : k ≤ an) (hn : ¬ (k < an ∧ E = 0)) : XRel S l lf lo hi b5 n an an E w := by
  rcases h with ⟨h1, h2, h3⟩ | h
  · obtain rfl : k = an := by
      rcases Nat.lt_or_ge k an with g | g
      · exact absurd ⟨g, h1⟩ hn
      · omega
    exact .inl ⟨h1, h2, h3⟩
  · exact .inr h
theorem XRel.e40 {S : List Sl} {l : List At} {lf : Int} {lo hi b5 n an k : Nat} {E : Int} {w : World} (h : XRel S l lf lo hi b5 n an k E w) (hn : ¬ E = 0) : E = 40 := by
  rcases h with ⟨h1, _⟩ | ⟨h, _⟩
  · exact absurd h1 hn
  · exact h
theorem valid_pens {S : List Sl} {P : List Wr} {l : List At} {lf : Int} {n j : Nat} (hV : Valid ⟨S, [], lf, false⟩) (hn : S.length = n) (h0 : 0 < n) (h : PensA P l n j) (hj : j ≤ 4096) : Valid ⟨S, P, lf, false⟩ := by
  obtain ⟨⟨g1, g2, g3, g4, g5⟩, g6, g7⟩ := hV
  refine ⟨⟨g1, g2, by rw [h.1]; exact hj, g4, g5⟩, g6, fun i hi => ?_⟩
  dsimp only at hi ⊢
  rw [hn]
  exact okWr_of h0 h (by rw [← h.1]; exact hi)
set_option linter.unusedVariables false in
set_option maxRecDepth 100000 in
set_option maxHeartbeats 4000000 in
theorem diskTogether_walk (S : List Sl) (P : List Wr) (lf : Int) (st : Bool) (sa : Option Addr) (sb so sn sc : Nat) (pa : Option Addr) (pb po pn pc : Nat) (xa : Option Addr) (ab ao an ac : Nat) (l : List At) (w : World) (hS : Secs w sa sb so sn S) (hP : Pens w pa pb po pn P) (hsn : sn ≤ 9223372036854775807) (hpn : pn ≤ 9223372036854775807) (hpc : pn ≤ pc) (hpz : pa = none → pc = 0) (hsz : sa = none → sc = 0) (hA : As w xa an ab ao l) (hwf : ∀ i, i < an → wfA (nthA l i)) (han : an ≤ 9223372036854775807) :
    Calls Try.prog 8 #[.agg #[.slice sa sn sc, .slice pa pn pc, .int .i64 lf, .bool st], .slice xa an ac] w fun e w' => e = .returned (.bool true) ∧ Below w.heap.size w w' := by
  have HA := Lib.hid (show _ ∧ _ ∧ _ ∧ _ from ⟨hS, hP, hA, hwf⟩)
  clear hS hP hA hwf
  go_enter Try.func8, Try.ntmps8
  have HW := Lib.hid (Below.refl w.heap.size w)
  go_upto_region 1 with fail
  have H1 := Lib.hid (show _ ∧ _ from ⟨below_after HW.out ((Below.refl w.heap.size w).alloc (Nat.le_refl _) (.cells #[.slice sa sn sc, .slice pa pn pc, .int .i64 lf, .bool st] 25)) HW.out.size, blk_new w (.cells #[.slice sa sn sc, .slice pa pn pc, .int .i64 lf, .bool st] 25)⟩)
  have hzW1 : w.heap.size < (w.alloc (.cells #[.slice sa sn sc, .slice pa pn pc, .int .i64 lf, .bool st] 25)).heap.size := by simp
  generalize w.alloc (.cells #[.slice sa sn sc, .slice pa pn pc, .int .i64 lf, .bool st] 25) = W1 at *
  go_wp2_with fail
  refine (sane_any _).mono ?_
  rintro e W2 ⟨hp, hb⟩
  subst hp
  have H2 := Lib.hid (show _ ∧ _ from ⟨below_after H1.out.1 hb H1.out.1.size, blk_below H1.out.2 hb (blk_lt H1.out.2)⟩)
  clear hb
  have xd0 := blk_cell H2.out.2 0
  have xd1 := blk_cell H2.out.2 1
  have xd2 := blk_cell H2.out.2 2
  have xd3 := blk_cell H2.out.2 3
  go_wp2_with fail
  clear xd0 xd1 xd2 xd3
  refine (few_all S P lf st sa sb so sn sc pa pb po pn pc _ (HA.out.1.below H2.out.1 (Nat.le_refl _)) (HA.out.2.1.below H2.out.1 (Nat.le_refl _)) (by omega) (by omega)).mono ?_
  rintro e W3 ⟨hp, hb⟩
  obtain ⟨r, rfl⟩ := hp
  have H3 := Lib.hid (show _ ∧ _ from ⟨below_after H2.out.1 hb H2.out.1.size, blk_below H2.out.2 hb (blk_lt H2.out.2)⟩)
  clear hb
  cases r
  case false =>
    go_wp2
    go_ret
    exact ⟨rfl, H3.out.1⟩
  have hl0 : ((an : Nat) : Int) ≤ 9223372036854775807 := by omega
  by_cases hl : 20 < an
  · have c1 : (20 : Int) < ((an : Nat) : Int) := by omega
    go_wp2
    go_ret
    exact ⟨rfl, H3.out.1⟩
  have c1 : ¬ (20 : Int) < ((an : Nat) : Int) := by omega
  have han20 : an ≤ 20 := by omega
  clear hl hl0 han
  by_cases hpn0 : 0 < pn
  · have xd0 := blk_cell H3.out.2 0
    have xd1 := blk_cell H3.out.2 1
    have xd2 := blk_cell H3.out.2 2
    have xd3 := blk_cell H3.out.2 3
    have c2 : (0 : Int) < (pn : Int) := by omega
    go_wp2
    go_ret
    exact ⟨rfl, H3.out.1⟩
  obtain rfl : pn = 0 := by omega
  obtain ⟨rfl⟩ : P = [] := List.eq_nil_of_length_eq_zero HA.out.2.1.len
  clear hpn0
  by_cases hs0 : sn = 0
  · have xd0 := blk_cell H3.out.2 0
    have xd1 := blk_cell H3.out.2 1
    have xd2 := blk_cell H3.out.2 2
    have xd3 := blk_cell H3.out.2 3
    subst hs0
    go_wp2
    go_ret
    exact ⟨rfl, H3.out.1⟩
  have e0 : ((sn : Int) == 0) = false := by simp; omega
  have hsp : 0 < sn := by omega
  clear hs0
  have xd0 := blk_cell H3.out.2 0
  have xd1 := blk_cell H3.out.2 1
  have xd2 := blk_cell H3.out.2 2
  have xd3 := blk_cell H3.out.2 3
  go_wp2_with fail
  refine (check_any S [] lf st sa sb so sn sc pa pb po 0 pc _ (HA.out.1.below H3.out.1 (Nat.le_refl _)) (HA.out.2.1.below H3.out.1 (Nat.le_refl _)) (by omega) (by omega)).mono ?_
  rintro e W4 ⟨hp, hb⟩
  subst hp
  have H4 := Lib.hid (show _ ∧ _ from ⟨below_after H3.out.1 hb H3.out.1.size, blk_below H3.out.2 hb (blk_lt H3.out.2)⟩)
  clear hb
  clear xd0 xd1 xd2 xd3
  by_cases hv : Valid ⟨S, [], lf, st⟩
  case neg =>
    rw [chkE_bad hv]
    clear hv
    go_wp2
    go_ret
    exact ⟨rfl, H4.out.1⟩
  rw [chkE_ok hv]
  cases st
  case true =>
    clear hv
    have xd0 := blk_cell H4.out.2 0
    have xd1 := blk_cell H4.out.2 1
    have xd2 := blk_cell H4.out.2 2
    have xd3 := blk_cell H4.out.2 3
    go_wp2
    go_ret
    exact ⟨rfl, H4.out.1⟩
  have HV := Lib.hid hv
  have hl1 : -1 ≤ lf := hv.1.2.2.2.1
  have hl2 : lf ≤ 65536 := hv.1.2.2.2.2
  have hSl : S.length = sn := HA.out.1.len
  have hs4 : sn ≤ 4096 := by have := hv.1.2.1; dsimp only at this; omega
  clear hv
  have xd0 := blk_cell H4.out.2 0
  have xd1 := blk_cell H4.out.2 1
  have xd2 := blk_cell H4.out.2 2
  have xd3 := blk_cell H4.out.2 3
  go_upto_region 5 with fail
  clear xd0 xd1 xd2 xd3
  go_cut [5, 6] from 7 (fun p q wx => ∃ b5 b6 : Nat, p = .pointer (some ⟨b5, 0, none⟩) ∧ q = .pointer (some ⟨b6, 0, none⟩) ∧ W4.heap.size ≤ b5 ∧ b5 < W4.heap.size + 2 ∧ W4.heap.size ≤ b6 ∧ b6 < W4.heap.size + 2 ∧ b5 ≠ b6 ∧ Hid (wx.heap[b5]? = some (.cells #[.slice sa sn sc, .slice pa 0 pc, .int .i64 lf, .bool false] 25 (0, 0)) ∧ wx.heap[b6]? = some (.cells #[.slice sa sn sc, .slice pa 0 pc, .int .i64 lf, .bool false] 25 (0, 0)) ∧ Below W4.heap.size W4 wx ∧ wx.heap.size = W4.heap.size + 2))
  case first =>
    refine wp_region_from 0 2 (fun w' => w'.heap[w.heap.size]? = some (.cells #[.slice sa sn sc, .slice pa 0 pc, .int .i64 lf, .bool false] 25 (0, 0))) (by kernel_rfl) (by kernel_rfl) (by decide) (by kernel_rfl) (H4.out.2) ?_
    simp only [List.drop_zero, List.take_succ_cons, List.take_zero]
    refine wpHeld_cons (.agg #[.slice sa sn sc, .slice pa 0 pc, .int .i64 lf, .bool false]) (by kernel_rfl) ?_ ?_
    · intro w' s
      have y0 := blk_cell s 0
      simp at y0
      have y1 := blk_cell s 1
      simp at y1
      have y2 := blk_cell s 2
      simp at y2
      have y3 := blk_cell s 3
      simp at y3
      try go_simp
    refine wpHeld_cons (.agg #[.slice sa sn sc, .slice pa 0 pc, .int .i64 lf, .bool false]) (by kernel_rfl) ?_ ?_
    · intro w' s
      have y0 := blk_cell s 0
      simp at y0
      have y1 := blk_cell s 1
      simp at y1
      have y2 := blk_cell s 2
      simp at y2
      have y3 := blk_cell s 3
      simp at y3
      try go_simp
    refine wpHeld_nil ?_
    go_simp
    refine wpAnyH_two (i := 2) (j := 3) (by kernel_rfl) rfl rfl (by kernel_rfl) (by kernel_rfl) (fun K' hK' => ?_) (fun K' hK' => ?_)
    · go_simp
      have K1 := Lib.hid (show Below W4.heap.size W4 (W4.alloc (.cells #[.slice none 0 0, .slice none 0 0, .int .i64 0, .bool false] 25)).drew ∧ _ from ⟨((Below.refl _ _).alloc (Nat.le_refl _) (.cells #[.slice none 0 0, .slice none 0 0, .int .i64 0, .bool false] 25)).drew, blk_drew (blk_new W4 (.cells #[.slice none 0 0, .slice none 0 0, .int .i64 0, .bool false] 25))⟩)
      have kz1 : (W4.alloc (.cells #[.slice none 0 0, .slice none 0 0, .int .i64 0, .bool false] 25)).drew.heap.size = W4.heap.size + 1 := by simp
      have KZ1 := Lib.hid kz1
      clear kz1
      generalize (W4.alloc (.cells #[.slice none 0 0, .slice none 0 0, .int .i64 0, .bool false] 25)).drew = V1 at *
      refine hK' _ _ (blk_below H4.out.2 K1.out.1 (blk_lt H4.out.2)) ?_
      clear hK' K'
      go_simp
      refine wpAnyH_one (i := 3) (by kernel_rfl) rfl (by kernel_rfl) (fun K' hK' => ?_)
      go_simp
      have K2 := Lib.hid (show Below W4.heap.size W4 (V1.alloc (.cells #[.slice none 0 0, .slice none 0 0, .int .i64 0, .bool false] 25)) ∧ _ ∧ (V1.alloc (.cells #[.slice none 0 0, .slice none 0 0, .int .i64 0, .bool false] 25)).heap[W4.heap.size + 1]? = _ ∧ (V1.alloc (.cells #[.slice none 0 0, .slice none 0 0, .int .i64 0, .bool false] 25)).heap.size = W4.heap.size + 2 from ⟨K1.out.1.alloc K1.out.1.size (.cells #[.slice none 0 0, .slice none 0 0, .int .i64 0, .bool false] 25), blk_alloc K1.out.2 (.cells #[.slice none 0 0, .slice none 0 0, .int .i64 0, .bool false] 25), blkZ KZ1.out.symm, by simp [KZ1.out]⟩)
      rw [KZ1.out]
      generalize V1.alloc (.cells #[.slice none 0 0, .slice none 0 0, .int .i64 0, .bool false] 25) = V2 at *
      refine hK' _ _ (blk_below H4.out.2 K2.out.1 (blk_lt H4.out.2)) ?_
      clear hK' K'
      go_simp
      refine wpAnyH_one (i := 4) (by kernel_rfl) rfl (by kernel_rfl) (fun K' hK' => ?_)
      have z0 := blk_cell K2.out.2.1 0
      have z1 := blk_cell K2.out.2.1 1
      have z2 := blk_cell K2.out.2.1 2
      have z3 := blk_cell K2.out.2.1 3
      have f0 := blk_free K2.out.2.1 0
      have f1 := blk_free K2.out.2.1 1
      have f2 := blk_free K2.out.2.1 2
      have f3 := blk_free K2.out.2.1 3
      go_simp
      have K3 := Lib.hid (show Below W4.heap.size W4 (((((V2).setCell ⟨W4.heap.size, 0, none⟩ (.slice sa sn sc)).setCell ⟨W4.heap.size, 1, none⟩ (.slice pa 0 pc)).setCell ⟨W4.heap.size, 2, none⟩ (.int .i64 lf)).setCell ⟨W4.heap.size, 3, none⟩ (.bool false)) ∧ (((((V2).setCell ⟨W4.heap.size, 0, none⟩ (.slice sa sn sc)).setCell ⟨W4.heap.size, 1, none⟩ (.slice pa 0 pc)).setCell ⟨W4.heap.size, 2, none⟩ (.int .i64 lf)).setCell ⟨W4.heap.size, 3, none⟩ (.bool false)).heap[W4.heap.size]? = some (.cells #[.slice sa sn sc, .slice pa 0 pc, .int .i64 lf, .bool false] 25 (0, 0)) ∧ (((((V2).setCell ⟨W4.heap.size, 0, none⟩ (.slice sa sn sc)).setCell ⟨W4.heap.size, 1, none⟩ (.slice pa 0 pc)).setCell ⟨W4.heap.size, 2, none⟩ (.int .i64 lf)).setCell ⟨W4.heap.size, 3, none⟩ (.bool false)).heap[W4.heap.size + 1]? = some (.cells #[.slice none 0 0, .slice none 0 0, .int .i64 0, .bool false] 25 (0, 0)) ∧ (((((V2).setCell ⟨W4.heap.size, 0, none⟩ (.slice sa sn sc)).setCell ⟨W4.heap.size, 1, none⟩ (.slice pa 0 pc)).setCell ⟨W4.heap.size, 2, none⟩ (.int .i64 lf)).setCell ⟨W4.heap.size, 3, none⟩ (.bool false)).heap.size = W4.heap.size + 2 from ⟨cell4_below (u0 := .slice sa sn sc) (u1 := .slice pa 0 pc) (u2 := .int .i64 lf) (u3 := .bool false) (by omega) K2.out.1, cell4_set (u0 := .slice sa sn sc) (u1 := .slice pa 0 pc) (u2 := .int .i64 lf) (u3 := .bool false) K2.out.2.1, cell4_other (u0 := .slice sa sn sc) (u1 := .slice pa 0 pc) (u2 := .int .i64 lf) (u3 := .bool false) K2.out.2.2.1 (by omega), by simp [World.size_setCell, K2.out.2.2.2]⟩)
      clear z0 z1 z2 z3 f0 f1 f2 f3 K2
      generalize (((((V2).setCell ⟨W4.heap.size, 0, none⟩ (.slice sa sn sc)).setCell ⟨W4.heap.size, 1, none⟩ (.slice pa 0 pc)).setCell ⟨W4.heap.size, 2, none⟩ (.int .i64 lf)).setCell ⟨W4.heap.size, 3, none⟩ (.bool false)) = V3 at *
      refine hK' _ _ (blk_below H4.out.2 K3.out.1 (blk_lt H4.out.2)) ?_
      clear hK' K'
      go_simp
      refine wpAnyH_one (i := 5) (by kernel_rfl) rfl (by kernel_rfl) (fun K' hK' => ?_)
      have z0 := blk_cell K3.out.2.2.1 0
      have z1 := blk_cell K3.out.2.2.1 1
      have z2 := blk_cell K3.out.2.2.1 2
      have z3 := blk_cell K3.out.2.2.1 3
      have f0 := blk_free K3.out.2.2.1 0
      have f1 := blk_free K3.out.2.2.1 1
      have f2 := blk_free K3.out.2.2.1 2
      have f3 := blk_free K3.out.2.2.1 3
      go_simp
      have K4 := Lib.hid (show (((((V3).setCell ⟨W4.heap.size + 1, 0, none⟩ (.slice sa sn sc)).setCell ⟨W4.heap.size + 1, 1, none⟩ (.slice pa 0 pc)).setCell ⟨W4.heap.size + 1, 2, none⟩ (.int .i64 lf)).setCell ⟨W4.heap.size + 1, 3, none⟩ (.bool false)).heap[W4.heap.size]? = some (.cells #[.slice sa sn sc, .slice pa 0 pc, .int .i64 lf, .bool false] 25 (0, 0)) ∧ (((((V3).setCell ⟨W4.heap.size + 1, 0, none⟩ (.slice sa sn sc)).setCell ⟨W4.heap.size + 1, 1, none⟩ (.slice pa 0 pc)).setCell ⟨W4.heap.size + 1, 2, none⟩ (.int .i64 lf)).setCell ⟨W4.heap.size + 1, 3, none⟩ (.bool false)).heap[W4.heap.size + 1]? = some (.cells #[.slice sa sn sc, .slice pa 0 pc, .int .i64 lf, .bool false] 25 (0, 0)) ∧ Below W4.heap.size W4 (((((V3).setCell ⟨W4.heap.size + 1, 0, none⟩ (.slice sa sn sc)).setCell ⟨W4.heap.size + 1, 1, none⟩ (.slice pa 0 pc)).setCell ⟨W4.heap.size + 1, 2, none⟩ (.int .i64 lf)).setCell ⟨W4.heap.size + 1, 3, none⟩ (.bool false)) ∧ (((((V3).setCell ⟨W4.heap.size + 1, 0, none⟩ (.slice sa sn sc)).setCell ⟨W4.heap.size + 1, 1, none⟩ (.slice pa 0 pc)).setCell ⟨W4.heap.size + 1, 2, none⟩ (.int .i64 lf)).setCell ⟨W4.heap.size + 1, 3, none⟩ (.bool false)).heap.size = W4.heap.size + 2 from ⟨cell4_other (u0 := .slice sa sn sc) (u1 := .slice pa 0 pc) (u2 := .int .i64 lf) (u3 := .bool false) K3.out.2.1 (by omega), cell4_set (u0 := .slice sa sn sc) (u1 := .slice pa 0 pc) (u2 := .int .i64 lf) (u3 := .bool false) K3.out.2.2.1, cell4_below (u0 := .slice sa sn sc) (u1 := .slice pa 0 pc) (u2 := .int .i64 lf) (u3 := .bool false) (by omega) K3.out.1, by simp [World.size_setCell, K3.out.2.2.2]⟩)
      clear z0 z1 z2 z3 f0 f1 f2 f3 K3
      generalize (((((V3).setCell ⟨W4.heap.size + 1, 0, none⟩ (.slice sa sn sc)).setCell ⟨W4.heap.size + 1, 1, none⟩ (.slice pa 0 pc)).setCell ⟨W4.heap.size + 1, 2, none⟩ (.int .i64 lf)).setCell ⟨W4.heap.size + 1, 3, none⟩ (.bool false)) = V4 at *
      refine hK' _ _ (blk_below H4.out.2 K4.out.2.2.1 (blk_lt H4.out.2)) ?_
      clear hK' K'
      go_simp
      refine wpAnyH_done (by kernel_rfl) ?_ _
      refine NoPanic.normal ?_
      go_simp
      go_wp2_with fail
      go_meet
      case rel => exact ⟨W4.heap.size, W4.heap.size + 1, rfl, rfl, by omega, by omega, by omega, by omega, by omega, K4⟩
    · go_simp
      have K1 := Lib.hid (show Below W4.heap.size W4 (W4.alloc (.cells #[.slice none 0 0, .slice none 0 0, .int .i64 0, .bool false] 25)).drew ∧ _ from ⟨((Below.refl _ _).alloc (Nat.le_refl _) (.cells #[.slice none 0 0, .slice none 0 0, .int .i64 0, .bool false] 25)).drew, blk_drew (blk_new W4 (.cells #[.slice none 0 0, .slice none 0 0, .int .i64 0, .bool false] 25))⟩)
      have kz1 : (W4.alloc (.cells #[.slice none 0 0, .slice none 0 0, .int .i64 0, .bool false] 25)).drew.heap.size = W4.heap.size + 1 := by simp
      have KZ1 := Lib.hid kz1
      clear kz1
      generalize (W4.alloc (.cells #[.slice none 0 0, .slice none 0 0, .int .i64 0, .bool false] 25)).drew = V1 at *
      refine hK' _ _ (blk_below H4.out.2 K1.out.1 (blk_lt H4.out.2)) ?_
      clear hK' K'
      go_simp
      refine wpAnyH_one (i := 2) (by kernel_rfl) rfl (by kernel_rfl) (fun K' hK' => ?_)
      go_simp
      have K2 := Lib.hid (show Below W4.heap.size W4 (V1.alloc (.cells #[.slice none 0 0, .slice none 0 0, .int .i64 0, .bool false] 25)) ∧ _ ∧ (V1.alloc (.cells #[.slice none 0 0, .slice none 0 0, .int .i64 0, .bool false] 25)).heap[W4.heap.size + 1]? = _ ∧ (V1.alloc (.cells #[.slice none 0 0, .slice none 0 0, .int .i64 0, .bool false] 25)).heap.size = W4.heap.size + 2 from ⟨K1.out.1.alloc K1.out.1.size (.cells #[.slice none 0 0, .slice none 0 0, .int .i64 0, .bool false] 25), blk_alloc K1.out.2 (.cells #[.slice none 0 0, .slice none 0 0, .int .i64 0, .bool false] 25), blkZ KZ1.out.symm, by simp [KZ1.out]⟩)
      rw [KZ1.out]
      generalize V1.alloc (.cells #[.slice none 0 0, .slice none 0 0, .int .i64 0, .bool false] 25) = V2 at *
      refine hK' _ _ (blk_below H4.out.2 K2.out.1 (blk_lt H4.out.2)) ?_
      clear hK' K'
      go_simp
      refine wpAnyH_one (i := 4) (by kernel_rfl) rfl (by kernel_rfl) (fun K' hK' => ?_)
      have z0 := blk_cell K2.out.2.2.1 0
      have z1 := blk_cell K2.out.2.2.1 1
      have z2 := blk_cell K2.out.2.2.1 2
      have z3 := blk_cell K2.out.2.2.1 3
      have f0 := blk_free K2.out.2.2.1 0
      have f1 := blk_free K2.out.2.2.1 1
      have f2 := blk_free K2.out.2.2.1 2
      have f3 := blk_free K2.out.2.2.1 3
      go_simp
      have K3 := Lib.hid (show Below W4.heap.size W4 (((((V2).setCell ⟨W4.heap.size + 1, 0, none⟩ (.slice sa sn sc)).setCell ⟨W4.heap.size + 1, 1, none⟩ (.slice pa 0 pc)).setCell ⟨W4.heap.size + 1, 2, none⟩ (.int .i64 lf)).setCell ⟨W4.heap.size + 1, 3, none⟩ (.bool false)) ∧ (((((V2).setCell ⟨W4.heap.size + 1, 0, none⟩ (.slice sa sn sc)).setCell ⟨W4.heap.size + 1, 1, none⟩ (.slice pa 0 pc)).setCell ⟨W4.heap.size + 1, 2, none⟩ (.int .i64 lf)).setCell ⟨W4.heap.size + 1, 3, none⟩ (.bool false)).heap[W4.heap.size + 1]? = some (.cells #[.slice sa sn sc, .slice pa 0 pc, .int .i64 lf, .bool false] 25 (0, 0)) ∧ (((((V2).setCell ⟨W4.heap.size + 1, 0, none⟩ (.slice sa sn sc)).setCell ⟨W4.heap.size + 1, 1, none⟩ (.slice pa 0 pc)).setCell ⟨W4.heap.size + 1, 2, none⟩ (.int .i64 lf)).setCell ⟨W4.heap.size + 1, 3, none⟩ (.bool false)).heap[W4.heap.size]? = some (.cells #[.slice none 0 0, .slice none 0 0, .int .i64 0, .bool false] 25 (0, 0)) ∧ (((((V2).setCell ⟨W4.heap.size + 1, 0, none⟩ (.slice sa sn sc)).setCell ⟨W4.heap.size + 1, 1, none⟩ (.slice pa 0 pc)).setCell ⟨W4.heap.size + 1, 2, none⟩ (.int .i64 lf)).setCell ⟨W4.heap.size + 1, 3, none⟩ (.bool false)).heap.size = W4.heap.size + 2 from ⟨cell4_below (u0 := .slice sa sn sc) (u1 := .slice pa 0 pc) (u2 := .int .i64 lf) (u3 := .bool false) (by omega) K2.out.1, cell4_set (u0 := .slice sa sn sc) (u1 := .slice pa 0 pc) (u2 := .int .i64 lf) (u3 := .bool false) K2.out.2.2.1, cell4_other (u0 := .slice sa sn sc) (u1 := .slice pa 0 pc) (u2 := .int .i64 lf) (u3 := .bool false) K2.out.2.1 (by omega), by simp [World.size_setCell, K2.out.2.2.2]⟩)
      clear z0 z1 z2 z3 f0 f1 f2 f3 K2
      generalize (((((V2).setCell ⟨W4.heap.size + 1, 0, none⟩ (.slice sa sn sc)).setCell ⟨W4.heap.size + 1, 1, none⟩ (.slice pa 0 pc)).setCell ⟨W4.heap.size + 1, 2, none⟩ (.int .i64 lf)).setCell ⟨W4.heap.size + 1, 3, none⟩ (.bool false)) = V3 at *
      refine hK' _ _ (blk_below H4.out.2 K3.out.1 (blk_lt H4.out.2)) ?_
      clear hK' K'
      go_simp
      refine wpAnyH_one (i := 5) (by kernel_rfl) rfl (by kernel_rfl) (fun K' hK' => ?_)
      have z0 := blk_cell K3.out.2.2.1 0
      have z1 := blk_cell K3.out.2.2.1 1
      have z2 := blk_cell K3.out.2.2.1 2
      have z3 := blk_cell K3.out.2.2.1 3
      have f0 := blk_free K3.out.2.2.1 0
      have f1 := blk_free K3.out.2.2.1 1
      have f2 := blk_free K3.out.2.2.1 2
      have f3 := blk_free K3.out.2.2.1 3
      go_simp
      have K4 := Lib.hid (show (((((V3).setCell ⟨W4.heap.size, 0, none⟩ (.slice sa sn sc)).setCell ⟨W4.heap.size, 1, none⟩ (.slice pa 0 pc)).setCell ⟨W4.heap.size, 2, none⟩ (.int .i64 lf)).setCell ⟨W4.heap.size, 3, none⟩ (.bool false)).heap[W4.heap.size + 1]? = some (.cells #[.slice sa sn sc, .slice pa 0 pc, .int .i64 lf, .bool false] 25 (0, 0)) ∧ (((((V3).setCell ⟨W4.heap.size, 0, none⟩ (.slice sa sn sc)).setCell ⟨W4.heap.size, 1, none⟩ (.slice pa 0 pc)).setCell ⟨W4.heap.size, 2, none⟩ (.int .i64 lf)).setCell ⟨W4.heap.size, 3, none⟩ (.bool false)).heap[W4.heap.size]? = some (.cells #[.slice sa sn sc, .slice pa 0 pc, .int .i64 lf, .bool false] 25 (0, 0)) ∧ Below W4.heap.size W4 (((((V3).setCell ⟨W4.heap.size, 0, none⟩ (.slice sa sn sc)).setCell ⟨W4.heap.size, 1, none⟩ (.slice pa 0 pc)).setCell ⟨W4.heap.size, 2, none⟩ (.int .i64 lf)).setCell ⟨W4.heap.size, 3, none⟩ (.bool false)) ∧ (((((V3).setCell ⟨W4.heap.size, 0, none⟩ (.slice sa sn sc)).setCell ⟨W4.heap.size, 1, none⟩ (.slice pa 0 pc)).setCell ⟨W4.heap.size, 2, none⟩ (.int .i64 lf)).setCell ⟨W4.heap.size, 3, none⟩ (.bool false)).heap.size = W4.heap.size + 2 from ⟨cell4_other (u0 := .slice sa sn sc) (u1 := .slice pa 0 pc) (u2 := .int .i64 lf) (u3 := .bool false) K3.out.2.1 (by omega), cell4_set (u0 := .slice sa sn sc) (u1 := .slice pa 0 pc) (u2 := .int .i64 lf) (u3 := .bool false) K3.out.2.2.1, cell4_below (u0 := .slice sa sn sc) (u1 := .slice pa 0 pc) (u2 := .int .i64 lf) (u3 := .bool false) (by omega) K3.out.1, by simp [World.size_setCell, K3.out.2.2.2]⟩)
      clear z0 z1 z2 z3 f0 f1 f2 f3 K3
      generalize (((((V3).setCell ⟨W4.heap.size, 0, none⟩ (.slice sa sn sc)).setCell ⟨W4.heap.size, 1, none⟩ (.slice pa 0 pc)).setCell ⟨W4.heap.size, 2, none⟩ (.int .i64 lf)).setCell ⟨W4.heap.size, 3, none⟩ (.bool false)) = V4 at *
      refine hK' _ _ (blk_below H4.out.2 K4.out.2.2.1 (blk_lt H4.out.2)) ?_
      clear hK' K'
      go_simp
      refine wpAnyH_done (by kernel_rfl) ?_ _
      refine NoPanic.normal ?_
      go_simp
      go_wp2_with fail
      go_meet
      case rel => exact ⟨W4.heap.size + 1, W4.heap.size, rfl, rfl, by omega, by omega, by omega, by omega, by omega, K4⟩
  case rest =>
    obtain ⟨b5, b6, rfl, rfl, h51, h52, h61, h62, h56, HC⟩ := hcut
    have hcl := H4.out.1.trans (HC.out.2.2.1.mono H4.out.1.size)
    have HI0 := Lib.hid (show Below w.heap.size w wc ∧ wc.heap[w.heap.size]? = some (.cells #[.slice sa sn sc, .slice pa 0 pc, .int .i64 lf, .bool false] 25 (0, 0)) ∧ wc.heap[b6]? = some (.cells #[.slice sa sn sc, .slice pa 0 pc, .int .i64 lf, .bool false] 25 (0, 0)) ∧ (W4.heap.size + 2) ≤ wc.heap.size from ⟨hcl, blk_below H4.out.2 HC.out.2.2.1 (blk_lt H4.out.2), HC.out.2.1, Nat.le_of_eq HC.out.2.2.2.symm⟩)
    have HX0 : Hid (XRel S l lf W4.heap.size (W4.heap.size + 2) b5 sn an 0 0 wc) := Lib.hid (.inl ⟨rfl, by omega, sa, sb, so, sc, pa, pc, S, by rw [leftA_zero]; exact HC.out.1, HA.out.1.f hcl H4.out.1.size, hsz, fun i hi => rfl⟩)
    clear hcl
    go_wp2_with fail
    go_loopw [7, 8] (fun ev v wr => ∃ (k : Nat) (E : Int), k ≤ an ∧ v = .int .i64 k ∧ ev = .int .i64 E ∧ Hid (Below w.heap.size w wr ∧ wr.heap[w.heap.size]? = some (.cells #[.slice sa sn sc, .slice pa 0 pc, .int .i64 lf, .bool false] 25 (0, 0)) ∧ wr.heap[b6]? = some (.cells #[.slice sa sn sc, .slice pa 0 pc, .int .i64 lf, .bool false] 25 (0, 0)) ∧ (W4.heap.size + 2) ≤ wr.heap.size) ∧ Hid (XRel S l lf W4.heap.size (W4.heap.size + 2) b5 sn an k E wr)) (fun _ v _ => an - (intOf v).toNat)
    case atStart => exact ⟨0, 0, Nat.zero_le _, rfl, rfl, HI0, HX0⟩
    case round =>
      obtain ⟨k, E, hk, rfl, rfl, HI1, HX1⟩ := hrel
      by_cases hgo : k < an ∧ E = 0
      · obtain ⟨hka, rfl⟩ := hgo
        obtain ⟨hlk, sa1, sb1, so1, sc1, pa1, pc1, Sx, hx5, hSx, hsz1, hcx⟩ : (lf = -1 ∨ (k : Int) ≤ lf) ∧ XOk S l lf W4.heap.size (W4.heap.size + 2) b5 sn k wr := by
          rcases HX1.out with ⟨_, h2, h3⟩ | ⟨h, _⟩
          · exact ⟨h2, h3⟩
          · exact absurd h (by decide)
        obtain ⟨L1, hL1⟩ : ∃ L1, L1 = leftA lf k := ⟨_, rfl⟩
        rw [← hL1] at hx5
        have j1 : (k : Int) < (an : Int) := by omega
        have j2 : ¬ (k : Int) < 0 := by omega
        have u1 : IntKind.i64.wrap ((k : Int) + 1) = ((k + 1 : Nat) : Int) := (wrap_id (by omega)).trans (by omega)
        have hAs := HA.out.2.2.1.grown (w' := wr) (HI1.out.1)
        obtain ⟨rfl, hab⟩ := hAs.2.1 (by omega)
        obtain ⟨-, a1, a2⟩ := hAs.2.2 k hka
        have hwf := HA.out.2.2.2 k hka
        have hatt := atA_int (l := l) (k := k) hsp
        have htl := atA_lt (l := l) (k := k) hsp
        obtain ⟨tt, htt⟩ : ∃ tt, tt = atA l sn k := ⟨_, rfl⟩
        have hdat : dataA l k = padL [(nthA l k).2.2] := rfl
        obtain ⟨v1, hv1⟩ : ∃ v1, v1 = (nthA l k).2.1 := ⟨_, rfl⟩
        obtain ⟨y1, hy1⟩ : ∃ y1, y1 = (nthA l k).2.2 := ⟨_, rfl⟩
        rw [← htt] at hatt htl
        rw [← hv1] at a1 hatt
        rw [← hy1] at a2 hdat
        have hvb : 0 ≤ v1 ∧ v1 ≤ 255 := by rw [hv1]; exact hwf.1
        have u2 : IntKind.i64.wrap v1 = v1 := wrap_id (by omega)
        have m1 : v1.tmod (sn : Int) = (tt : Int) := by rw [Int.tmod_eq_emod_of_nonneg hvb.1]; exact hatt
        have hcl : ∀ i, i < sn → (nS Sx i).2.2.length = 128 := fun i hi => by rw [hcx i hi]; exact contA_len (fun i hi => HV.out.2.1 i (by dsimp only; omega)) k i hi
        have hLr := leftA_run hl1 hl2 hlk
        rw [← hL1] at hLr
        have hrun : runB ⟨Sx, [], L1, false⟩ = true := run_of (by have := hSx.s.len; omega) (by have := hSx.s.len; omega) (by simp) hLr.1 hLr.2 (fun i hi => hcl i (by have := hSx.s.len; omega)) (fun i hi => by simp at hi)
        have HRz := Lib.hid hsz1
        have HRd := Lib.hid (show _ ∧ _ ∧ _ ∧ _ ∧ _ ∧ _ ∧ _ ∧ _ ∧ _ from ⟨hka, hlk, hL1, htt, hdat, hrun, hcx, hcl, hLr⟩)
        have HSx := Lib.hid (show _ ∧ _ from ⟨hx5, hSx⟩)
        clear hka hlk hL1 htt hdat hrun hcx hcl hLr hx5 hSx hv1 hy1 hwf hAs hk HX1
        have d0 := blk_cell HI1.out.2.1 0
        have m2 : v1 % (sn : Int) = (tt : Int) := hatt
        clear hatt
        go_wp2_with fail
        go_quiet (fail)
        go_upto_region 11 with fail
        have hbq := below_drewN (n := nq) (Below.refl wr.heap.size wr)
        have HIq := Lib.hid (show Below w.heap.size w (wr.drewN nq) ∧ (wr.drewN nq).heap[w.heap.size]? = some (.cells #[.slice sa sn sc, .slice pa 0 pc, .int .i64 lf, .bool false] 25 (0, 0)) ∧ (wr.drewN nq).heap[b6]? = some (.cells #[.slice sa sn sc, .slice pa 0 pc, .int .i64 lf, .bool false] 25 (0, 0)) ∧ (W4.heap.size + 2) ≤ (wr.drewN nq).heap.size from ⟨below_after HI1.out.1 hbq HI1.out.1.size, blk_below HI1.out.2.1 hbq (blk_lt HI1.out.2.1), blk_below HI1.out.2.2.1 hbq (blk_lt HI1.out.2.2.1), by have := hbq.size; have := HI1.out.2.2.2; omega⟩)
        have HSq := Lib.hid (show _ ∧ _ from ⟨blk_below HSx.out.1 hbq (blk_lt HSx.out.1), HSx.out.2.below hbq (Nat.le_refl _)⟩)
        have a2q := (hbq.cell (p := ⟨ab, ao + k * 3 + 2, none⟩) (by have := HI1.out.1.size; omega)).trans a2
        clear hbq HSx HI1 a1 a2 d0 m1 m2
        generalize wr.drewN nq = wq at *
        have hwq : ab < wq.heap.size := by have := HIq.out.1.size; have := blk_lt HIq.out.2.1; have := HA.out.2.2.1.2.1 (by omega); omega
        go_cut [10, 11] from 69 to 81 (fun p v wx => v = .int .i64 0 ∧ ∃ (bz : Nat) (qa : Option Addr) (qb qc : Nat) (Y : Sl), p = .pointer (some ⟨bz, 0, none⟩) ∧ Y.2.2 = padL [y1] ∧ 1 ≤ qc ∧ Hid (wx.heap[bz]? = some (.cells #[.slice sa1 sn sc1, .slice qa 1 qc, .int .i64 L1, .bool false] 25 (0, 0)) ∧ Below wq.heap.size wq wx ∧ PensF wx W4.heap.size (W4.heap.size + 2) qa qb 0 1 [((tt : Int), Y)]))
        case first =>
          refine wp_region_from 0 7 (fun w' => w'.heap[b5]? = some (.cells #[.slice sa1 sn sc1, .slice pa1 0 pc1, .int .i64 L1, .bool false] 25 (0, 0)) ∧ w'.cell? ⟨ab, ao + k * 3 + 2, none⟩ = some (.int .u8 y1)) (by kernel_rfl) (by kernel_rfl) (by decide) (by kernel_rfl) (⟨blk_below HSq.out.1 ((Below.refl wq.heap.size wq).drew) (blk_lt HSq.out.1), (((Below.refl wq.heap.size wq).drew).cell (p := ⟨ab, ao + k * 3 + 2, none⟩) hwq).trans a2q⟩) ?_
          simp only [List.drop_zero, List.take_succ_cons, List.take_zero]
          refine wpHeld_cons (.agg #[.slice sa1 sn sc1, .slice pa1 0 pc1, .int .i64 L1, .bool false]) (by kernel_rfl) ?_ ?_
          · rintro w' ⟨s1, s2⟩
            have y0 := blk_cell s1 0
            simp at y0
            have y1 := blk_cell s1 1
            simp at y1
            have y2 := blk_cell s1 2
            simp at y2
            have y3 := blk_cell s1 3
            simp at y3
            try go_simp
          refine wpHeld_cons (.int .i64 (tt : Int)) (by kernel_rfl) ?_ ?_
          · rintro w' ⟨s1, s2⟩
            try go_simp
          refine wpHeld_cons (.slice (some ⟨ab, ao, none⟩) an ac) (by kernel_rfl) ?_ ?_
          · rintro w' ⟨s1, s2⟩
            try go_simp
          refine wpHeld_cons (.int .i64 (k : Int)) (by kernel_rfl) ?_ ?_
          · rintro w' ⟨s1, s2⟩
            try go_simp
          refine wpHeld_cons (.pointer (some ⟨ab, ao + k * 3, none⟩)) (by kernel_rfl) ?_ ?_
          · rintro w' ⟨s1, s2⟩
            try go_simp
          refine wpHeld_cons (.pointer (some ⟨ab, ao + k * 3 + 2, none⟩)) (by kernel_rfl) ?_ ?_
          · rintro w' ⟨s1, s2⟩
            try go_simp
          refine wpHeld_cons (.int .u8 y1) (by kernel_rfl) ?_ ?_
          · rintro w' ⟨s1, s2⟩
            try go_simp
          refine wpHeld_nil ?_
          go_simp
          refine wpAnyH_two (i := 7) (j := 12) (by kernel_rfl) rfl rfl (by kernel_rfl) (by kernel_rfl) (fun K' hK' => ?_) (fun K' hK' => ?_)
          · go_simp
            have K1 := Lib.hid (show Below wq.heap.size wq (wq.alloc (.cells #[.int .u8 y1] 5)).drew ∧ _ ∧ _ from ⟨((Below.refl wq.heap.size wq).alloc (Nat.le_refl _) (.cells #[.int .u8 y1] 5)).drew, blk_drew (blk_new wq (.cells #[.int .u8 y1] 5)), trivial⟩)
            generalize (wq.alloc (.cells #[.int .u8 y1] 5)).drew = V1 at *
            refine hK' _ _ (⟨blk_below HSq.out.1 K1.out.1 (blk_lt HSq.out.1), (K1.out.1.cell (p := ⟨ab, ao + k * 3 + 2, none⟩) hwq).trans a2q⟩) ?_
            clear hK' K'
            go_simp
            refine wpAnyH_two (i := 8) (j := 12) (by kernel_rfl) rfl rfl (by kernel_rfl) (by kernel_rfl) (fun K' hK' => ?_) (fun K' hK' => ?_)
            · go_simp
              refine (write_ok Sx [] L1 sa1 sb1 so1 sn sc1 pa1 0 0 0 pc1 (tt : Int) (some ⟨wq.heap.size, 0, none⟩, 1, [y1]) 1 _ (HSq.out.2.s.below K1.out.1 (Nat.le_refl _)) (pens_nil _ _) (slr_of (L := [y1]) K1.out.2.1) (by omega) (Nat.zero_le _) HRd.out.2.2.2.2.2.1 (by omega) (by omega) (by simp) (by omega) rfl).mono ?_
              rintro e V2 ⟨hp, hb⟩
              obtain ⟨qa, qb, qc, Y, hY, hqc, hqB, hYg, hP1, rfl⟩ := hp
              have hsz : (W4.heap.size + 2) ≤ V1.heap.size := by have := K1.out.1.size; have := HIq.out.2.2.2; omega
              have K2 := Lib.hid (show _ ∧ _ from ⟨below_after K1.out.1 hb K1.out.1.size, (pensF_nil _ W4.heap.size (W4.heap.size + 2) pa1).snoc hb hsz hqB hYg hP1⟩)
              have HYY := Lib.hid (show _ ∧ _ from ⟨hY, hqc⟩)
              clear hb hY hqc hqB hYg hP1 hsz
              refine hK' _ _ (⟨blk_below HSq.out.1 K2.out.1 (blk_lt HSq.out.1), (K2.out.1.cell (p := ⟨ab, ao + k * 3 + 2, none⟩) hwq).trans a2q⟩) ?_
              clear hK' K'
              go_simp
              refine wpAnyH_from (fuel := 3) 9 3 (fun _ _ _ _ _ h => h) (by kernel_rfl) (by decide) (by kernel_rfl) (⟨blk_below HSq.out.1 K2.out.1 (blk_lt HSq.out.1), (K2.out.1.cell (p := ⟨ab, ao + k * 3 + 2, none⟩) hwq).trans a2q⟩) ?_
              simp only [List.drop_succ_cons, List.drop_zero, List.take_succ_cons, List.take_zero]
              refine wpHeld_cons (.tuple #[.agg #[.slice sa1 sn sc1, .slice qa 1 qc, .int .i64 L1, .bool false], .int .i64 0]) (by kernel_rfl) ?_ ?_
              · intro w' s
                try go_simp
              refine wpHeld_cons (.agg #[.slice sa1 sn sc1, .slice qa 1 qc, .int .i64 L1, .bool false]) (by kernel_rfl) ?_ ?_
              · intro w' s
                try go_simp
              refine wpHeld_cons (.int .i64 0) (by kernel_rfl) ?_ ?_
              · intro w' s
                try go_simp
              refine wpHeld_nil ?_
              go_simp
              refine wpAnyH_one (i := 12) (by kernel_rfl) rfl (by kernel_rfl) (fun K' hK' => ?_)
              go_simp
              have K3 := Lib.hid (show Below wq.heap.size wq (V2.alloc (.cells #[.slice none 0 0, .slice none 0 0, .int .i64 0, .bool false] 25)) ∧ wq.heap.size ≤ V2.heap.size ∧ _ ∧ True ∧ PensF (V2.alloc (.cells #[.slice none 0 0, .slice none 0 0, .int .i64 0, .bool false] 25)) W4.heap.size (W4.heap.size + 2) qa qb 0 1 [((tt : Int), Y)] ∧ PensF (V2.alloc (.cells #[.slice none 0 0, .slice none 0 0, .int .i64 0, .bool false] 25)) V2.heap.size (V2.heap.size + 1) qa qb 0 1 [((tt : Int), Y)] from ⟨K2.out.1.alloc K2.out.1.size (.cells #[.slice none 0 0, .slice none 0 0, .int .i64 0, .bool false] 25), K2.out.1.size, blk_new V2 (.cells #[.slice none 0 0, .slice none 0 0, .int .i64 0, .bool false] 25), trivial, K2.out.2.below ((Below.refl V2.heap.size V2).alloc (Nat.le_refl _) (.cells #[.slice none 0 0, .slice none 0 0, .int .i64 0, .bool false] 25)) (Nat.le_refl _), K2.out.2.s.f ((Below.refl V2.heap.size V2).alloc (Nat.le_refl _) (.cells #[.slice none 0 0, .slice none 0 0, .int .i64 0, .bool false] 25)) (Nat.le_refl _) (hi := V2.heap.size + 1)⟩)
              generalize (V2.alloc (.cells #[.slice none 0 0, .slice none 0 0, .int .i64 0, .bool false] 25)) = V3 at *
              refine hK' _ _ (⟨blk_below HSq.out.1 K3.out.1 (blk_lt HSq.out.1), (K3.out.1.cell (p := ⟨ab, ao + k * 3 + 2, none⟩) hwq).trans a2q⟩) ?_
              clear hK' K'
              go_simp
              refine wpAnyH_one (i := 13) (by kernel_rfl) rfl (by kernel_rfl) (fun K' hK' => ?_)
              have z0 := blk_cell K3.out.2.2.1 0
              have f0 := blk_free K3.out.2.2.1 0
              have z1 := blk_cell K3.out.2.2.1 1
              have f1 := blk_free K3.out.2.2.1 1
              have z2 := blk_cell K3.out.2.2.1 2
              have f2 := blk_free K3.out.2.2.1 2
              have z3 := blk_cell K3.out.2.2.1 3
              have f3 := blk_free K3.out.2.2.1 3
              go_simp
              have hbF := cell4_below (u0 := (.slice sa1 sn sc1)) (u1 := (.slice qa 1 qc)) (u2 := (.int .i64 L1)) (u3 := (.bool false)) K3.out.2.1 K3.out.1
              have HF := Lib.hid (show ((((V3.setCell ⟨V2.heap.size, 0, none⟩ (.slice sa1 sn sc1)).setCell ⟨V2.heap.size, 1, none⟩ (.slice qa 1 qc)).setCell ⟨V2.heap.size, 2, none⟩ (.int .i64 L1)).setCell ⟨V2.heap.size, 3, none⟩ (.bool false)).heap[V2.heap.size]? = some (.cells #[.slice sa1 sn sc1, .slice qa 1 qc, .int .i64 L1, .bool false] 25 (0, 0)) ∧ Below wq.heap.size wq ((((V3.setCell ⟨V2.heap.size, 0, none⟩ (.slice sa1 sn sc1)).setCell ⟨V2.heap.size, 1, none⟩ (.slice qa 1 qc)).setCell ⟨V2.heap.size, 2, none⟩ (.int .i64 L1)).setCell ⟨V2.heap.size, 3, none⟩ (.bool false)) ∧ PensF ((((V3.setCell ⟨V2.heap.size, 0, none⟩ (.slice sa1 sn sc1)).setCell ⟨V2.heap.size, 1, none⟩ (.slice qa 1 qc)).setCell ⟨V2.heap.size, 2, none⟩ (.int .i64 L1)).setCell ⟨V2.heap.size, 3, none⟩ (.bool false)) W4.heap.size (W4.heap.size + 2) qa qb 0 1 [((tt : Int), Y)] from ⟨cell4_set (u0 := (.slice sa1 sn sc1)) (u1 := (.slice qa 1 qc)) (u2 := (.int .i64 L1)) (u3 := (.bool false)) K3.out.2.2.1, hbF, K3.out.2.2.2.2.1.upd2 K3.out.2.2.2.2.2 (UpdR.set4 (c := V2.heap.size) (u0 := (.slice sa1 sn sc1)) (u1 := (.slice qa 1 qc)) (u2 := (.int .i64 L1)) (u3 := (.bool false)) (Nat.le_refl _) (Nat.lt_succ_self _))⟩)
              clear z0 z1 z2 z3 f0 f1 f2 f3
              refine hK' _ _ (⟨blk_below HSq.out.1 hbF (blk_lt HSq.out.1), (hbF.cell (p := ⟨ab, ao + k * 3 + 2, none⟩) hwq).trans a2q⟩) ?_
              clear hK' K'
              go_simp
              refine wpAnyH_from (fuel := 0) 14 1 (fun _ _ _ _ _ h => h) (by kernel_rfl) (by decide) (by kernel_rfl) (⟨blk_below HSq.out.1 hbF (blk_lt HSq.out.1), (hbF.cell (p := ⟨ab, ao + k * 3 + 2, none⟩) hwq).trans a2q⟩) ?_
              simp only [List.drop_succ_cons, List.drop_zero, List.take_succ_cons, List.take_zero]
              refine wpHeld_cons (.int .i64 0) (by kernel_rfl) ?_ ?_
              · intro w' s
                try go_simp
              refine wpHeld_nil ?_
              go_simp
              refine wpAnyH_done (by kernel_rfl) ?_ _
              refine NoPanic.normal ?_
              go_simp
              go_wp2_with fail
              go_meet
              case rel => exact ⟨rfl, V2.heap.size, qa, qb, qc, Y, rfl, HYY.out.1, HYY.out.2, HF⟩
            · go_simp
              have K4 := Lib.hid (show Below wq.heap.size wq (V1.alloc (.cells #[.slice none 0 0, .slice none 0 0, .int .i64 0, .bool false] 25)) ∧ wq.heap.size ≤ V1.heap.size ∧ _ ∧ _ from ⟨K1.out.1.alloc K1.out.1.size (.cells #[.slice none 0 0, .slice none 0 0, .int .i64 0, .bool false] 25), K1.out.1.size, blk_new V1 (.cells #[.slice none 0 0, .slice none 0 0, .int .i64 0, .bool false] 25), blk_alloc K1.out.2.1 (.cells #[.slice none 0 0, .slice none 0 0, .int .i64 0, .bool false] 25)⟩)
              generalize (V1.alloc (.cells #[.slice none 0 0, .slice none 0 0, .int .i64 0, .bool false] 25)) = V4 at *
              refine hK' _ _ (⟨blk_below HSq.out.1 K4.out.1 (blk_lt HSq.out.1), (K4.out.1.cell (p := ⟨ab, ao + k * 3 + 2, none⟩) hwq).trans a2q⟩) ?_
              clear hK' K'
              go_simp
              refine wpAnyH_one (i := 8) (by kernel_rfl) rfl (by kernel_rfl) (fun K' hK' => ?_)
              go_simp
              refine (write_ok Sx [] L1 sa1 sb1 so1 sn sc1 pa1 0 0 0 pc1 (tt : Int) (some ⟨wq.heap.size, 0, none⟩, 1, [y1]) 1 _ (HSq.out.2.s.below K4.out.1 (Nat.le_refl _)) (pens_nil _ _) (slr_of (L := [y1]) K4.out.2.2.2) (by omega) (Nat.zero_le _) HRd.out.2.2.2.2.2.1 (by omega) (by omega) (by simp) (by omega) rfl).mono ?_
              rintro e V5 ⟨hp, hb⟩
              obtain ⟨qa, qb, qc, Y, hY, hqc, hqB, hYg, hP1, rfl⟩ := hp
              have hsz : (W4.heap.size + 2) ≤ V4.heap.size := by have := K4.out.1.size; have := HIq.out.2.2.2; omega
              have K5 := Lib.hid (show _ ∧ _ ∧ _ ∧ PensF V5 V1.heap.size (V1.heap.size + 1) qa qb 0 1 [((tt : Int), Y)] from ⟨below_after K4.out.1 hb K4.out.1.size, (pensF_nil _ W4.heap.size (W4.heap.size + 2) pa1).snoc hb hsz hqB hYg hP1, blk_below K4.out.2.2.1 hb (blk_lt K4.out.2.2.1), (pensF_nil _ V1.heap.size (V1.heap.size + 1) pa1).snoc hb (by have := blk_lt K4.out.2.2.1; omega) hqB hYg hP1⟩)
              have HYY := Lib.hid (show _ ∧ _ from ⟨hY, hqc⟩)
              clear hb hY hqc hqB hYg hP1 hsz
              refine hK' _ _ (⟨blk_below HSq.out.1 K5.out.1 (blk_lt HSq.out.1), (K5.out.1.cell (p := ⟨ab, ao + k * 3 + 2, none⟩) hwq).trans a2q⟩) ?_
              clear hK' K'
              go_simp
              refine wpAnyH_from (fuel := 2) 9 3 (fun _ _ _ _ _ h => h) (by kernel_rfl) (by decide) (by kernel_rfl) (⟨blk_below HSq.out.1 K5.out.1 (blk_lt HSq.out.1), (K5.out.1.cell (p := ⟨ab, ao + k * 3 + 2, none⟩) hwq).trans a2q⟩) ?_
              simp only [List.drop_succ_cons, List.drop_zero, List.take_succ_cons, List.take_zero]
              refine wpHeld_cons (.tuple #[.agg #[.slice sa1 sn sc1, .slice qa 1 qc, .int .i64 L1, .bool false], .int .i64 0]) (by kernel_rfl) ?_ ?_
              · intro w' s
                try go_simp
              refine wpHeld_cons (.agg #[.slice sa1 sn sc1, .slice qa 1 qc, .int .i64 L1, .bool false]) (by kernel_rfl) ?_ ?_
              · intro w' s
                try go_simp
              refine wpHeld_cons (.int .i64 0) (by kernel_rfl) ?_ ?_
              · intro w' s
                try go_simp
              refine wpHeld_nil ?_
              go_simp
              refine wpAnyH_one (i := 13) (by kernel_rfl) rfl (by kernel_rfl) (fun K' hK' => ?_)
              have z0 := blk_cell K5.out.2.2.1 0
              have f0 := blk_free K5.out.2.2.1 0
              have z1 := blk_cell K5.out.2.2.1 1
              have f1 := blk_free K5.out.2.2.1 1
              have z2 := blk_cell K5.out.2.2.1 2
              have f2 := blk_free K5.out.2.2.1 2
              have z3 := blk_cell K5.out.2.2.1 3
              have f3 := blk_free K5.out.2.2.1 3
              go_simp
              have hbF := cell4_below (u0 := (.slice sa1 sn sc1)) (u1 := (.slice qa 1 qc)) (u2 := (.int .i64 L1)) (u3 := (.bool false)) K4.out.2.1 K5.out.1
              have HF := Lib.hid (show ((((V5.setCell ⟨V1.heap.size, 0, none⟩ (.slice sa1 sn sc1)).setCell ⟨V1.heap.size, 1, none⟩ (.slice qa 1 qc)).setCell ⟨V1.heap.size, 2, none⟩ (.int .i64 L1)).setCell ⟨V1.heap.size, 3, none⟩ (.bool false)).heap[V1.heap.size]? = some (.cells #[.slice sa1 sn sc1, .slice qa 1 qc, .int .i64 L1, .bool false] 25 (0, 0)) ∧ Below wq.heap.size wq ((((V5.setCell ⟨V1.heap.size, 0, none⟩ (.slice sa1 sn sc1)).setCell ⟨V1.heap.size, 1, none⟩ (.slice qa 1 qc)).setCell ⟨V1.heap.size, 2, none⟩ (.int .i64 L1)).setCell ⟨V1.heap.size, 3, none⟩ (.bool false)) ∧ PensF ((((V5.setCell ⟨V1.heap.size, 0, none⟩ (.slice sa1 sn sc1)).setCell ⟨V1.heap.size, 1, none⟩ (.slice qa 1 qc)).setCell ⟨V1.heap.size, 2, none⟩ (.int .i64 L1)).setCell ⟨V1.heap.size, 3, none⟩ (.bool false)) W4.heap.size (W4.heap.size + 2) qa qb 0 1 [((tt : Int), Y)] from ⟨cell4_set (u0 := (.slice sa1 sn sc1)) (u1 := (.slice qa 1 qc)) (u2 := (.int .i64 L1)) (u3 := (.bool false)) K5.out.2.2.1, hbF, K5.out.2.1.upd2 K5.out.2.2.2 (UpdR.set4 (c := V1.heap.size) (u0 := (.slice sa1 sn sc1)) (u1 := (.slice qa 1 qc)) (u2 := (.int .i64 L1)) (u3 := (.bool false)) (Nat.le_refl _) (Nat.lt_succ_self _))⟩)
              clear z0 z1 z2 z3 f0 f1 f2 f3
              refine hK' _ _ (⟨blk_below HSq.out.1 hbF (blk_lt HSq.out.1), (hbF.cell (p := ⟨ab, ao + k * 3 + 2, none⟩) hwq).trans a2q⟩) ?_
              clear hK' K'
              go_simp
              refine wpAnyH_from (fuel := 0) 14 1 (fun _ _ _ _ _ h => h) (by kernel_rfl) (by decide) (by kernel_rfl) (⟨blk_below HSq.out.1 hbF (blk_lt HSq.out.1), (hbF.cell (p := ⟨ab, ao + k * 3 + 2, none⟩) hwq).trans a2q⟩) ?_
              simp only [List.drop_succ_cons, List.drop_zero, List.take_succ_cons, List.take_zero]
              refine wpHeld_cons (.int .i64 0) (by kernel_rfl) ?_ ?_
              · intro w' s
                try go_simp
              refine wpHeld_nil ?_
              go_simp
              refine wpAnyH_done (by kernel_rfl) ?_ _
              refine NoPanic.normal ?_
              go_simp
              go_wp2_with fail
              go_meet
              case rel => exact ⟨rfl, V1.heap.size, qa, qb, qc, Y, rfl, HYY.out.1, HYY.out.2, HF⟩
          · go_simp
            have K6 := Lib.hid (show Below wq.heap.size wq (wq.alloc (.cells #[.slice none 0 0, .slice none 0 0, .int .i64 0, .bool false] 25)).drew ∧ wq.heap.size ≤ wq.heap.size ∧ _ ∧ True from ⟨((Below.refl wq.heap.size wq).alloc (Nat.le_refl _) (.cells #[.slice none 0 0, .slice none 0 0, .int .i64 0, .bool false] 25)).drew, Nat.le_refl _, blk_drew (blk_new wq (.cells #[.slice none 0 0, .slice none 0 0, .int .i64 0, .bool false] 25)), trivial⟩)
            generalize (wq.alloc (.cells #[.slice none 0 0, .slice none 0 0, .int .i64 0, .bool false] 25)).drew = V6 at *
            refine hK' _ _ (⟨blk_below HSq.out.1 K6.out.1 (blk_lt HSq.out.1), (K6.out.1.cell (p := ⟨ab, ao + k * 3 + 2, none⟩) hwq).trans a2q⟩) ?_
            clear hK' K'
            go_simp
            refine wpAnyH_one (i := 7) (by kernel_rfl) rfl (by kernel_rfl) (fun K' hK' => ?_)
            go_simp
            have K7 := Lib.hid (show Below wq.heap.size wq (V6.alloc (.cells #[.int .u8 y1] 5)) ∧ _ ∧ _ from ⟨K6.out.1.alloc K6.out.1.size (.cells #[.int .u8 y1] 5), blk_new V6 (.cells #[.int .u8 y1] 5), blk_alloc K6.out.2.2.1 (.cells #[.int .u8 y1] 5)⟩)
            generalize (V6.alloc (.cells #[.int .u8 y1] 5)) = V7 at *
            refine hK' _ _ (⟨blk_below HSq.out.1 K7.out.1 (blk_lt HSq.out.1), (K7.out.1.cell (p := ⟨ab, ao + k * 3 + 2, none⟩) hwq).trans a2q⟩) ?_
            clear hK' K'
            go_simp
            refine wpAnyH_one (i := 8) (by kernel_rfl) rfl (by kernel_rfl) (fun K' hK' => ?_)
            go_simp
            refine (write_ok Sx [] L1 sa1 sb1 so1 sn sc1 pa1 0 0 0 pc1 (tt : Int) (some ⟨V6.heap.size, 0, none⟩, 1, [y1]) 1 _ (HSq.out.2.s.below K7.out.1 (Nat.le_refl _)) (pens_nil _ _) (slr_of (L := [y1]) K7.out.2.1) (by omega) (Nat.zero_le _) HRd.out.2.2.2.2.2.1 (by omega) (by omega) (by simp) (by omega) rfl).mono ?_
            rintro e V8 ⟨hp, hb⟩
            obtain ⟨qa, qb, qc, Y, hY, hqc, hqB, hYg, hP1, rfl⟩ := hp
            have hsz : (W4.heap.size + 2) ≤ V7.heap.size := by have := K7.out.1.size; have := HIq.out.2.2.2; omega
            have K8 := Lib.hid (show _ ∧ _ ∧ _ ∧ PensF V8 wq.heap.size (wq.heap.size + 1) qa qb 0 1 [((tt : Int), Y)] from ⟨below_after K7.out.1 hb K7.out.1.size, (pensF_nil _ W4.heap.size (W4.heap.size + 2) pa1).snoc hb hsz hqB hYg hP1, blk_below K7.out.2.2 hb (blk_lt K7.out.2.2), (pensF_nil _ wq.heap.size (wq.heap.size + 1) pa1).snoc hb (by have := blk_lt K7.out.2.2; omega) hqB hYg hP1⟩)
            have HYY := Lib.hid (show _ ∧ _ from ⟨hY, hqc⟩)
            clear hb hY hqc hqB hYg hP1 hsz
            refine hK' _ _ (⟨blk_below HSq.out.1 K8.out.1 (blk_lt HSq.out.1), (K8.out.1.cell (p := ⟨ab, ao + k * 3 + 2, none⟩) hwq).trans a2q⟩) ?_
            clear hK' K'
            go_simp
            refine wpAnyH_from (fuel := 2) 9 3 (fun _ _ _ _ _ h => h) (by kernel_rfl) (by decide) (by kernel_rfl) (⟨blk_below HSq.out.1 K8.out.1 (blk_lt HSq.out.1), (K8.out.1.cell (p := ⟨ab, ao + k * 3 + 2, none⟩) hwq).trans a2q⟩) ?_
            simp only [List.drop_succ_cons, List.drop_zero, List.take_succ_cons, List.take_zero]
            refine wpHeld_cons (.tuple #[.agg #[.slice sa1 sn sc1, .slice qa 1 qc, .int .i64 L1, .bool false], .int .i64 0]) (by kernel_rfl) ?_ ?_
            · intro w' s
              try go_simp
            refine wpHeld_cons (.agg #[.slice sa1 sn sc1, .slice qa 1 qc, .int .i64 L1, .bool false]) (by kernel_rfl) ?_ ?_
            · intro w' s
              try go_simp
            refine wpHeld_cons (.int .i64 0) (by kernel_rfl) ?_ ?_
            · intro w' s
              try go_simp
            refine wpHeld_nil ?_
            go_simp
            refine wpAnyH_one (i := 13) (by kernel_rfl) rfl (by kernel_rfl) (fun K' hK' => ?_)
            have z0 := blk_cell K8.out.2.2.1 0
            have f0 := blk_free K8.out.2.2.1 0
            have z1 := blk_cell K8.out.2.2.1 1
            have f1 := blk_free K8.out.2.2.1 1
            have z2 := blk_cell K8.out.2.2.1 2
            have f2 := blk_free K8.out.2.2.1 2
            have z3 := blk_cell K8.out.2.2.1 3
            have f3 := blk_free K8.out.2.2.1 3
            go_simp
            have hbF := cell4_below (u0 := (.slice sa1 sn sc1)) (u1 := (.slice qa 1 qc)) (u2 := (.int .i64 L1)) (u3 := (.bool false)) K6.out.2.1 K8.out.1
            have HF := Lib.hid (show ((((V8.setCell ⟨wq.heap.size, 0, none⟩ (.slice sa1 sn sc1)).setCell ⟨wq.heap.size, 1, none⟩ (.slice qa 1 qc)).setCell ⟨wq.heap.size, 2, none⟩ (.int .i64 L1)).setCell ⟨wq.heap.size, 3, none⟩ (.bool false)).heap[wq.heap.size]? = some (.cells #[.slice sa1 sn sc1, .slice qa 1 qc, .int .i64 L1, .bool false] 25 (0, 0)) ∧ Below wq.heap.size wq ((((V8.setCell ⟨wq.heap.size, 0, none⟩ (.slice sa1 sn sc1)).setCell ⟨wq.heap.size, 1, none⟩ (.slice qa 1 qc)).setCell ⟨wq.heap.size, 2, none⟩ (.int .i64 L1)).setCell ⟨wq.heap.size, 3, none⟩ (.bool false)) ∧ PensF ((((V8.setCell ⟨wq.heap.size, 0, none⟩ (.slice sa1 sn sc1)).setCell ⟨wq.heap.size, 1, none⟩ (.slice qa 1 qc)).setCell ⟨wq.heap.size, 2, none⟩ (.int .i64 L1)).setCell ⟨wq.heap.size, 3, none⟩ (.bool false)) W4.heap.size (W4.heap.size + 2) qa qb 0 1 [((tt : Int), Y)] from ⟨cell4_set (u0 := (.slice sa1 sn sc1)) (u1 := (.slice qa 1 qc)) (u2 := (.int .i64 L1)) (u3 := (.bool false)) K8.out.2.2.1, hbF, K8.out.2.1.upd2 K8.out.2.2.2 (UpdR.set4 (c := wq.heap.size) (u0 := (.slice sa1 sn sc1)) (u1 := (.slice qa 1 qc)) (u2 := (.int .i64 L1)) (u3 := (.bool false)) (Nat.le_refl _) (Nat.lt_succ_self _))⟩)
            clear z0 z1 z2 z3 f0 f1 f2 f3
            refine hK' _ _ (⟨blk_below HSq.out.1 hbF (blk_lt HSq.out.1), (hbF.cell (p := ⟨ab, ao + k * 3 + 2, none⟩) hwq).trans a2q⟩) ?_
            clear hK' K'
            go_simp
            refine wpAnyH_from (fuel := 0) 14 1 (fun _ _ _ _ _ h => h) (by kernel_rfl) (by decide) (by kernel_rfl) (⟨blk_below HSq.out.1 hbF (blk_lt HSq.out.1), (hbF.cell (p := ⟨ab, ao + k * 3 + 2, none⟩) hwq).trans a2q⟩) ?_
            simp only [List.drop_succ_cons, List.drop_zero, List.take_succ_cons, List.take_zero]
            refine wpHeld_cons (.int .i64 0) (by kernel_rfl) ?_ ?_
            · intro w' s
              try go_simp
            refine wpHeld_nil ?_
            go_simp
            refine wpAnyH_done (by kernel_rfl) ?_ _
            refine NoPanic.normal ?_
            go_simp
            go_wp2_with fail
            go_meet
            case rel => exact ⟨rfl, wq.heap.size, qa, qb, qc, Y, rfl, HYY.out.1, HYY.out.2, HF⟩
        case rest =>
          obtain ⟨rfl, bz, qa, qb, qc, Y, rfl, hY, hqc, HZ⟩ := hcut
          have hbz := HZ.out.2.1
          have HIz := Lib.hid (show Below w.heap.size w wc ∧ wc.heap[w.heap.size]? = some (.cells #[.slice sa sn sc, .slice pa 0 pc, .int .i64 lf, .bool false] 25 (0, 0)) ∧ wc.heap[b6]? = some (.cells #[.slice sa sn sc, .slice pa 0 pc, .int .i64 lf, .bool false] 25 (0, 0)) ∧ (W4.heap.size + 2) ≤ wc.heap.size from ⟨below_after HIq.out.1 hbz HIq.out.1.size, blk_below HIq.out.2.1 hbz (blk_lt HIq.out.2.1), blk_below HIq.out.2.2.1 hbz (blk_lt HIq.out.2.2.1), by have := hbz.size; have := HIq.out.2.2.2; omega⟩)
          have HSz := Lib.hid (show _ ∧ _ from ⟨blk_below HSq.out.1 hbz (blk_lt HSq.out.1), HSq.out.2.below hbz (Nat.le_refl _)⟩)
          have hYl : Y.2.2.length = 128 := by rw [hY]; exact padL_len (by simp)
          have hYd : Y.2.2 = dataA l k := by rw [HRd.out.2.2.2.2.1]; exact hY
          have hV1 : Valid ⟨Sx, [((tt : Int), Y)], L1, false⟩ := valid_snoc (P := []) (runB_valid HRd.out.2.2.2.2.2.1) ⟨by show (0 : Int) ≤ tt; omega, by show (tt : Int) < (Sx.length : Int); have := HSq.out.2.s.len; omega, hYl⟩ (by simp)
          have HV1 := Lib.hid hV1
          have HYd := Lib.hid (And.intro hYd hqc)
          clear hbz hY hYl hYd hV1 hqc HIq HSq
          have z0 := blk_cell HZ.out.1 0
          have z1 := blk_cell HZ.out.1 1
          have z2 := blk_cell HZ.out.1 2
          have z3 := blk_cell HZ.out.1 3
          go_wp2_with fail
          clear z0 z1 z2 z3
          by_cases hd0 : L1 = -1 ∨ ((1 : Nat) : Int) ≤ L1
          · have hd := Lib.hid hd0
            clear hd0
            refine (sync_any Sx [((tt : Int), Y)] L1 false sa1 sb1 so1 sn sc1 qa qb 0 1 qc wc HSz.out.2.s HZ.out.2.2.s (by omega) (by omega) HYd.out.2 HRz.out).mono ?_
            rintro e W7 ⟨hp, hb⟩
            obtain ⟨b3, cap3, hcap3, hB3, hS3, he⟩ := hp.done (runB_t HV1.out rfl) hd.out
            obtain ⟨G, hG⟩ : ∃ G, G = leftA lf (k + 1) := ⟨_, rfl⟩
            have hlk1 : lf = -1 ∨ ((k + 1 : Nat) : Int) ≤ lf := by
              rcases HRd.out.2.1 with h | h
              · exact .inl h
              · by_cases h1 : lf = -1
                · exact .inl h1
                · rcases hd.out with h2 | h2
                  · rw [HRd.out.2.2.1, leftA, if_neg h1] at h2; omega
                  · rw [HRd.out.2.2.1, leftA, if_neg h1] at h2; omega
            rw [HRd.out.2.2.1, leftA_succ hlk1, ← hG] at he
            subst he
            have HG := Lib.hid (And.intro hG hlk1)
            clear hG hlk1
            have hx6 := blk_below HSz.out.1 hb (blk_lt HSz.out.1)
            have x0 := blk_cell hx6 0
            have x1 := blk_cell hx6 1
            have x2 := blk_cell hx6 2
            have x3 := blk_cell hx6 3
            have f0 := blk_free hx6 0
            have f1 := blk_free hx6 1
            have f2 := blk_free hx6 2
            have f3 := blk_free hx6 3
            have HX6 := Lib.hid (show _ ∧ _ from ⟨hb, hx6⟩)
            clear hp
            go_upto_region 9 with fail
            have hdn : w.heap.size ≠ b5 := by have := blk_lt H4.out.2; omega
            have HIn := Lib.hid (show Below w.heap.size w ((((W7.setCell ⟨b5, 0, none⟩ (.slice (some ⟨b3, 0, none⟩) sn cap3)).setCell ⟨b5, 1, none⟩ (.slice none 0 0)).setCell ⟨b5, 2, none⟩ (.int .i64 G)).setCell ⟨b5, 3, none⟩ (.bool false)) ∧ ((((W7.setCell ⟨b5, 0, none⟩ (.slice (some ⟨b3, 0, none⟩) sn cap3)).setCell ⟨b5, 1, none⟩ (.slice none 0 0)).setCell ⟨b5, 2, none⟩ (.int .i64 G)).setCell ⟨b5, 3, none⟩ (.bool false)).heap[w.heap.size]? = some (.cells #[.slice sa sn sc, .slice pa 0 pc, .int .i64 lf, .bool false] 25 (0, 0)) ∧ ((((W7.setCell ⟨b5, 0, none⟩ (.slice (some ⟨b3, 0, none⟩) sn cap3)).setCell ⟨b5, 1, none⟩ (.slice none 0 0)).setCell ⟨b5, 2, none⟩ (.int .i64 G)).setCell ⟨b5, 3, none⟩ (.bool false)).heap[b6]? = some (.cells #[.slice sa sn sc, .slice pa 0 pc, .int .i64 lf, .bool false] 25 (0, 0)) ∧ (W4.heap.size + 2) ≤ ((((W7.setCell ⟨b5, 0, none⟩ (.slice (some ⟨b3, 0, none⟩) sn cap3)).setCell ⟨b5, 1, none⟩ (.slice none 0 0)).setCell ⟨b5, 2, none⟩ (.int .i64 G)).setCell ⟨b5, 3, none⟩ (.bool false)).heap.size from ⟨cell4_below (u0 := (.slice (some ⟨b3, 0, none⟩) sn cap3)) (u1 := (.slice none 0 0)) (u2 := (.int .i64 G)) (u3 := (.bool false)) (by have := HIz.out.1.size; have := H4.out.1.size; omega) (below_after HIz.out.1 hb HIz.out.1.size), cell4_other (u0 := (.slice (some ⟨b3, 0, none⟩) sn cap3)) (u1 := (.slice none 0 0)) (u2 := (.int .i64 G)) (u3 := (.bool false)) (blk_below HIz.out.2.1 hb (blk_lt HIz.out.2.1)) hdn, cell4_other (u0 := (.slice (some ⟨b3, 0, none⟩) sn cap3)) (u1 := (.slice none 0 0)) (u2 := (.int .i64 G)) (u3 := (.bool false)) (blk_below HIz.out.2.2.1 hb (blk_lt HIz.out.2.2.1)) (Ne.symm h56), by have := hb.size; have := HIz.out.2.2.2; simp only [World.size_setCell]; omega⟩)
            have HXn : Hid (XRel S l lf W4.heap.size (W4.heap.size + 2) b5 sn an (k + 1) 0 ((((W7.setCell ⟨b5, 0, none⟩ (.slice (some ⟨b3, 0, none⟩) sn cap3)).setCell ⟨b5, 1, none⟩ (.slice none 0 0)).setCell ⟨b5, 2, none⟩ (.int .i64 G)).setCell ⟨b5, 3, none⟩ (.bool false))) := Lib.hid (.inl ⟨rfl, HG.out.2, some ⟨b3, 0, none⟩, b3, 0, cap3, none, 0, Sx.set tt Y, by rw [← HG.out.1]; exact cell4_set (u0 := (.slice (some ⟨b3, 0, none⟩) sn cap3)) (u1 := (.slice none 0 0)) (u2 := (.int .i64 G)) (u3 := (.bool false)) hx6, (secsF_perf HSz.out.2 HZ.out.2.2 (k := 1) (Nat.le_refl _) hb HIz.out.2.2.2 hB3 hS3).upd (UpdR.set4 (c := b5) (u0 := (.slice (some ⟨b3, 0, none⟩) sn cap3)) (u1 := (.slice none 0 0)) (u2 := (.int .i64 G)) (u3 := (.bool false)) h51 h52), (fun h => by cases h), by rw [HRd.out.2.2.2.1]; exact cont_step HSz.out.2.s.len HRd.out.2.2.2.2.2.2.1 HYd.out.1⟩)
            clear x0 x1 x2 x3 f0 f1 f2 f3 hdn hx6 hb
            generalize ((((W7.setCell ⟨b5, 0, none⟩ (.slice (some ⟨b3, 0, none⟩) sn cap3)).setCell ⟨b5, 1, none⟩ (.slice none 0 0)).setCell ⟨b5, 2, none⟩ (.int .i64 G)).setCell ⟨b5, 3, none⟩ (.bool false)) = W8 at *
            go_wp2_with fail
            go_roundw
            case rel => exact ⟨k + 1, 0, by have := HRd.out.1; omega, by go_num, rfl, HIn, HXn⟩
            case measure => have := HRd.out.1; simp [intOf]; omega
          · have hd : Hid (True ∧ lf = (k : Int)) := Lib.hid ⟨trivial, by have h1 := HRd.out.2.2.1; have h2 := HRd.out.2.2.2.2.2.2.2.2; unfold leftA at h1; split at h1 <;> omega⟩
            have hL0 : 0 ≤ L1 ∧ L1 < 1 := by have h2 := HRd.out.2.2.2.2.2.2.2.2; omega
            obtain rfl : L1 = 0 := by omega
            clear hd0
            refine (sync_any Sx [((tt : Int), Y)] 0 false sa1 sb1 so1 sn sc1 qa qb 0 1 qc wc HSz.out.2.s HZ.out.2.2.s (by omega) (by omega) HYd.out.2 HRz.out).mono ?_
            rintro e W7 ⟨hp, hb⟩
            obtain ⟨b3, cap3, Y3, hcap3, hB3, hYg3, hY3, hS3, rfl⟩ := hp.torn (runB_t HV1.out rfl) (by omega) (by omega)
            have hx6 := blk_below HSz.out.1 hb (blk_lt HSz.out.1)
            have x0 := blk_cell hx6 0
            have x1 := blk_cell hx6 1
            have x2 := blk_cell hx6 2
            have x3 := blk_cell hx6 3
            have f0 := blk_free hx6 0
            have f1 := blk_free hx6 1
            have f2 := blk_free hx6 2
            have f3 := blk_free hx6 3
            have HX6 := Lib.hid (show _ ∧ _ from ⟨hb, hx6⟩)
            clear hp
            go_upto_region 9 with fail
            have hdn : w.heap.size ≠ b5 := by have := blk_lt H4.out.2; omega
            have HIn := Lib.hid (show Below w.heap.size w ((((W7.setCell ⟨b5, 0, none⟩ (.slice (some ⟨b3, 0, none⟩) sn cap3)).setCell ⟨b5, 1, none⟩ (.slice none 0 0)).setCell ⟨b5, 2, none⟩ (.int .i64 0)).setCell ⟨b5, 3, none⟩ (.bool true)) ∧ ((((W7.setCell ⟨b5, 0, none⟩ (.slice (some ⟨b3, 0, none⟩) sn cap3)).setCell ⟨b5, 1, none⟩ (.slice none 0 0)).setCell ⟨b5, 2, none⟩ (.int .i64 0)).setCell ⟨b5, 3, none⟩ (.bool true)).heap[w.heap.size]? = some (.cells #[.slice sa sn sc, .slice pa 0 pc, .int .i64 lf, .bool false] 25 (0, 0)) ∧ ((((W7.setCell ⟨b5, 0, none⟩ (.slice (some ⟨b3, 0, none⟩) sn cap3)).setCell ⟨b5, 1, none⟩ (.slice none 0 0)).setCell ⟨b5, 2, none⟩ (.int .i64 0)).setCell ⟨b5, 3, none⟩ (.bool true)).heap[b6]? = some (.cells #[.slice sa sn sc, .slice pa 0 pc, .int .i64 lf, .bool false] 25 (0, 0)) ∧ (W4.heap.size + 2) ≤ ((((W7.setCell ⟨b5, 0, none⟩ (.slice (some ⟨b3, 0, none⟩) sn cap3)).setCell ⟨b5, 1, none⟩ (.slice none 0 0)).setCell ⟨b5, 2, none⟩ (.int .i64 0)).setCell ⟨b5, 3, none⟩ (.bool true)).heap.size from ⟨cell4_below (u0 := (.slice (some ⟨b3, 0, none⟩) sn cap3)) (u1 := (.slice none 0 0)) (u2 := (.int .i64 0)) (u3 := (.bool true)) (by have := HIz.out.1.size; have := H4.out.1.size; omega) (below_after HIz.out.1 hb HIz.out.1.size), cell4_other (u0 := (.slice (some ⟨b3, 0, none⟩) sn cap3)) (u1 := (.slice none 0 0)) (u2 := (.int .i64 0)) (u3 := (.bool true)) (blk_below HIz.out.2.1 hb (blk_lt HIz.out.2.1)) hdn, cell4_other (u0 := (.slice (some ⟨b3, 0, none⟩) sn cap3)) (u1 := (.slice none 0 0)) (u2 := (.int .i64 0)) (u3 := (.bool true)) (blk_below HIz.out.2.2.1 hb (blk_lt HIz.out.2.2.1)) (Ne.symm h56), by have := hb.size; have := HIz.out.2.2.2; simp only [World.size_setCell]; omega⟩)
            have HXn : Hid (XRel S l lf W4.heap.size (W4.heap.size + 2) b5 sn an (k + 1) 40 ((((W7.setCell ⟨b5, 0, none⟩ (.slice (some ⟨b3, 0, none⟩) sn cap3)).setCell ⟨b5, 1, none⟩ (.slice none 0 0)).setCell ⟨b5, 2, none⟩ (.int .i64 0)).setCell ⟨b5, 3, none⟩ (.bool true))) := Lib.hid (.inr ⟨rfl, by have := hd.out.2; omega, by have := hd.out.2; have := HRd.out.1; omega, some ⟨b3, 0, none⟩, b3, 0, cap3, Sx.set tt Y3, cell4_set (u0 := (.slice (some ⟨b3, 0, none⟩) sn cap3)) (u1 := (.slice none 0 0)) (u2 := (.int .i64 0)) (u3 := (.bool true)) hx6, (secsF_torn HSz.out.2 HZ.out.2.2 (k := 0) (Nat.zero_le _) hb HIz.out.2.2.2 hB3 hYg3 hS3).upd (UpdR.set4 (c := b5) (u0 := (.slice (some ⟨b3, 0, none⟩) sn cap3)) (u1 := (.slice none 0 0)) (u2 := (.int .i64 0)) (u3 := (.bool true)) h51 h52), by rw [show lf.toNat = k by have := hd.out.2; omega, HRd.out.2.2.2.1]; exact torn_step HSz.out.2.s.len HRd.out.2.2.2.2.2.2.1 (by rw [hY3]; show tornL Y.2.2 (nS Sx tt).2.2 = _; rw [HYd.out.1, HRd.out.2.2.2.1])⟩)
            clear x0 x1 x2 x3 f0 f1 f2 f3 hdn hx6 hb
            generalize ((((W7.setCell ⟨b5, 0, none⟩ (.slice (some ⟨b3, 0, none⟩) sn cap3)).setCell ⟨b5, 1, none⟩ (.slice none 0 0)).setCell ⟨b5, 2, none⟩ (.int .i64 0)).setCell ⟨b5, 3, none⟩ (.bool true)) = W8 at *
            go_wp2_with fail
            go_roundw
            case rel => exact ⟨k + 1, 40, by have := HRd.out.1; omega, by go_num, rfl, HIn, HXn⟩
            case measure => have := HRd.out.1; simp [intOf]; omega
      · have HXf := Lib.hid (HX1.out.fin hk hgo)
        by_cases hka : k < an
        · obtain rfl : E = 40 := HX1.out.e40 (fun h => hgo ⟨hka, h⟩)
          have j1 : (k : Int) < (an : Int) := by omega
          clear HX1 hgo hk
          have HJ0 := Lib.hid (show Below w.heap.size w wr ∧ wr.heap[w.heap.size]? = some (.cells #[.slice sa sn sc, .slice pa 0 pc, .int .i64 lf, .bool false] 25 (0, 0)) ∧ (W4.heap.size + 2) ≤ wr.heap.size from ⟨HI1.out.1, HI1.out.2.1, HI1.out.2.2.2⟩)
          have HY0 : Hid (YRel l lf sa sc W4.heap.size (W4.heap.size + 2) b6 sn 0 wr) := Lib.hid ⟨pa, 0, pc, [], HI1.out.2.2.1, pensF_nil _ _ _ _, Nat.zero_le _, rfl, fun j hj => by omega⟩
          clear HI1
          go_wp2_with fail
          go_loopw [12] (fun v wr => ∃ j : Nat, j ≤ an ∧ v = .int .i64 j ∧ Hid (Below w.heap.size w wr ∧ wr.heap[w.heap.size]? = some (.cells #[.slice sa sn sc, .slice pa 0 pc, .int .i64 lf, .bool false] 25 (0, 0)) ∧ (W4.heap.size + 2) ≤ wr.heap.size) ∧ Hid (YRel l lf sa sc W4.heap.size (W4.heap.size + 2) b6 sn j wr) ∧ Hid (XRel S l lf W4.heap.size (W4.heap.size + 2) b5 sn an an 40 wr)) (fun v _ => an - (intOf v).toNat)
          case atStart => exact ⟨0, Nat.zero_le _, rfl, HJ0, HY0, HXf⟩
          case round =>
            obtain ⟨j, hj, rfl, HJ, HY, HX⟩ := hrel
            obtain ⟨ra, rb, rc, P, hy6, hPf, hrc, hPA⟩ := HY.out
            have hVP := valid_pens HV.out hSl hsp hPA (by omega)
            have HP := Lib.hid (show _ ∧ _ ∧ _ ∧ _ ∧ _ from ⟨hy6, hPf, hrc, hPA, hVP⟩)
            clear hy6 hPf hrc hPA hVP HY
            by_cases hja : j < an
            · have hsn0 : ¬ sn = 0 := by omega
              have j1 : (j : Int) < (an : Int) := by omega
              have j2 : ¬ (j : Int) < 0 := by omega
              have u1 : IntKind.i64.wrap ((j : Int) + 1) = ((j + 1 : Nat) : Int) := (wrap_id (by omega)).trans (by omega)
              have hAs := HA.out.2.2.1.grown (w' := wr) (HJ.out.1)
              obtain ⟨rfl, hab⟩ := hAs.2.1 (by omega)
              obtain ⟨-, a1, a2⟩ := hAs.2.2 j hja
              have hwf := HA.out.2.2.2 j hja
              have hatt := atA_int (l := l) (k := j) hsp
              have htl := atA_lt (l := l) (k := j) hsp
              obtain ⟨tt, htt⟩ : ∃ tt, tt = atA l sn j := ⟨_, rfl⟩
              have hdat : dataA l j = padL [(nthA l j).2.2] := rfl
              obtain ⟨v1, hv1⟩ : ∃ v1, v1 = (nthA l j).2.1 := ⟨_, rfl⟩
              obtain ⟨y1, hy1⟩ : ∃ y1, y1 = (nthA l j).2.2 := ⟨_, rfl⟩
              rw [← htt] at hatt htl
              rw [← hv1] at a1 hatt
              rw [← hy1] at a2 hdat
              have hvb : 0 ≤ v1 ∧ v1 ≤ 255 := by rw [hv1]; exact hwf.1
              have u2 : IntKind.i64.wrap v1 = v1 := wrap_id (by omega)
              have m1 : v1.tmod (sn : Int) = (tt : Int) := by rw [Int.tmod_eq_emod_of_nonneg hvb.1]; exact hatt
              have hwq : ab < wr.heap.size := by have := HJ.out.1.size; have := HA.out.2.2.1.2.1 (by omega); omega
              have HRd := Lib.hid (show _ ∧ _ ∧ _ from ⟨hja, htt, hdat⟩)
              have HAC := Lib.hid (And.intro a1 a2)
              clear hja htt hdat hv1 hy1 hwf hAs hj a1 a2
              have m2 : v1 % (sn : Int) = (tt : Int) := hatt
              clear hatt
              go_wp2_with fail
              have HBr := Lib.hid (Below.refl wr.heap.size wr)
              go_cut [13, 14] from 94 to 115 (fun p v wx => v = .int .i64 0 ∧ ∃ (bz : Nat) (qa : Option Addr) (qb qc : Nat) (Y : Sl), p = .pointer (some ⟨bz, 0, none⟩) ∧ Y.2.2 = padL [y1] ∧ j + 1 ≤ qc ∧ Hid (wx.heap[bz]? = some (.cells #[.slice sa sn sc, .slice qa (j + 1) qc, .int .i64 lf, .bool false] 25 (0, 0)) ∧ Below wr.heap.size wr wx ∧ PensF wx W4.heap.size (W4.heap.size + 2) qa qb 0 (j + 1) (P ++ [((tt : Int), Y)])))
              case first =>
                refine wp_region_from 0 16 (fun w' => w'.heap[b6]? = some (.cells #[.slice sa sn sc, .slice ra j rc, .int .i64 lf, .bool false] 25 (0, 0)) ∧ w'.heap[w.heap.size]? = some (.cells #[.slice sa sn sc, .slice pa 0 pc, .int .i64 lf, .bool false] 25 (0, 0)) ∧ w'.cell? ⟨ab, ao + j * 3 + 1, none⟩ = some (.int .u8 v1) ∧ w'.cell? ⟨ab, ao + j * 3 + 2, none⟩ = some (.int .u8 y1)) (by kernel_rfl) (by kernel_rfl) (by decide) (by kernel_rfl) (⟨blk_below HP.out.1 ((Below.refl wr.heap.size wr).drew) (blk_lt HP.out.1), blk_below HJ.out.2.1 ((Below.refl wr.heap.size wr).drew) (blk_lt HJ.out.2.1), (((Below.refl wr.heap.size wr).drew).cell (p := ⟨ab, ao + j * 3 + 1, none⟩) hwq).trans HAC.out.1, (((Below.refl wr.heap.size wr).drew).cell (p := ⟨ab, ao + j * 3 + 2, none⟩) hwq).trans HAC.out.2⟩) ?_
                simp only [List.drop_zero, List.take_succ_cons, List.take_zero]
                refine wpHeld_cons (.agg #[.slice sa sn sc, .slice ra j rc, .int .i64 lf, .bool false]) (by kernel_rfl) ?_ ?_
                · rintro w' ⟨s1, s2, s3, s4⟩
                  have y0 := blk_cell s1 0
                  simp at y0
                  have y1 := blk_cell s1 1
                  simp at y1
                  have y2 := blk_cell s1 2
                  simp at y2
                  have y3 := blk_cell s1 3
                  simp at y3
                  try go_simp
                refine wpHeld_cons (.slice (some ⟨ab, ao, none⟩) an ac) (by kernel_rfl) ?_ ?_
                · rintro w' ⟨s1, s2, s3, s4⟩
                  try go_simp
                refine wpHeld_cons (.int .i64 (j : Int)) (by kernel_rfl) ?_ ?_
                · rintro w' ⟨s1, s2, s3, s4⟩
                  try go_simp
                refine wpHeld_cons (.pointer (some ⟨ab, ao + j * 3, none⟩)) (by kernel_rfl) ?_ ?_
                · rintro w' ⟨s1, s2, s3, s4⟩
                  try go_simp
                refine wpHeld_cons (.pointer (some ⟨ab, ao + j * 3 + 1, none⟩)) (by kernel_rfl) ?_ ?_
                · rintro w' ⟨s1, s2, s3, s4⟩
                  try go_simp
                refine wpHeld_cons (.int .u8 v1) (by kernel_rfl) ?_ ?_
                · rintro w' ⟨s1, s2, s3, s4⟩
                  try go_simp
                refine wpHeld_cons (.int .i64 v1) (by kernel_rfl) ?_ ?_
                · rintro w' ⟨s1, s2, s3, s4⟩
                  try go_simp
                refine wpHeld_cons (.pointer (some ⟨w.heap.size, 0, none⟩)) (by kernel_rfl) ?_ ?_
                · rintro w' ⟨s1, s2, s3, s4⟩
                  try go_simp
                refine wpHeld_cons (.slice sa sn sc) (by kernel_rfl) ?_ ?_
                · rintro w' ⟨s1, s2, s3, s4⟩
                  have y0 := blk_cell s2 0
                  simp at y0
                  have y1 := blk_cell s2 1
                  simp at y1
                  have y2 := blk_cell s2 2
                  simp at y2
                  have y3 := blk_cell s2 3
                  simp at y3
                  try go_simp
                refine wpHeld_cons (.int .i64 (sn : Int)) (by kernel_rfl) ?_ ?_
                · rintro w' ⟨s1, s2, s3, s4⟩
                  try go_simp
                refine wpHeld_cons (.int .i64 (tt : Int)) (by kernel_rfl) ?_ ?_
                · rintro w' ⟨s1, s2, s3, s4⟩
                  try go_simp
                refine wpHeld_cons (.slice (some ⟨ab, ao, none⟩) an ac) (by kernel_rfl) ?_ ?_
                · rintro w' ⟨s1, s2, s3, s4⟩
                  try go_simp
                refine wpHeld_cons (.int .i64 (j : Int)) (by kernel_rfl) ?_ ?_
                · rintro w' ⟨s1, s2, s3, s4⟩
                  try go_simp
                refine wpHeld_cons (.pointer (some ⟨ab, ao + j * 3, none⟩)) (by kernel_rfl) ?_ ?_
                · rintro w' ⟨s1, s2, s3, s4⟩
                  try go_simp
                refine wpHeld_cons (.pointer (some ⟨ab, ao + j * 3 + 2, none⟩)) (by kernel_rfl) ?_ ?_
                · rintro w' ⟨s1, s2, s3, s4⟩
                  try go_simp
                refine wpHeld_cons (.int .u8 y1) (by kernel_rfl) ?_ ?_
                · rintro w' ⟨s1, s2, s3, s4⟩
                  try go_simp
                refine wpHeld_nil ?_
                go_simp
                refine wpAnyH_two (i := 16) (j := 21) (by kernel_rfl) rfl rfl (by kernel_rfl) (by kernel_rfl) (fun K' hK' => ?_) (fun K' hK' => ?_)
                · go_simp
                  have K1 := Lib.hid (show Below wr.heap.size wr (wr.alloc (.cells #[.int .u8 y1] 5)).drew ∧ _ ∧ _ from ⟨((Below.refl wr.heap.size wr).alloc (Nat.le_refl _) (.cells #[.int .u8 y1] 5)).drew, blk_drew (blk_new wr (.cells #[.int .u8 y1] 5)), trivial⟩)
                  generalize (wr.alloc (.cells #[.int .u8 y1] 5)).drew = V1 at *
                  refine hK' _ _ (⟨blk_below HP.out.1 K1.out.1 (blk_lt HP.out.1), blk_below HJ.out.2.1 K1.out.1 (blk_lt HJ.out.2.1), (K1.out.1.cell (p := ⟨ab, ao + j * 3 + 1, none⟩) hwq).trans HAC.out.1, (K1.out.1.cell (p := ⟨ab, ao + j * 3 + 2, none⟩) hwq).trans HAC.out.2⟩) ?_
                  clear hK' K'
                  go_simp
                  refine wpAnyH_two (i := 17) (j := 21) (by kernel_rfl) rfl rfl (by kernel_rfl) (by kernel_rfl) (fun K' hK' => ?_) (fun K' hK' => ?_)
                  · go_simp
                    refine (write_ok S P lf sa sb so sn sc ra rb 0 j rc (tt : Int) (some ⟨wr.heap.size, 0, none⟩, 1, [y1]) (j + 1) _ (HA.out.1.below (HJ.out.1.trans (K1.out.1.mono HJ.out.1.size)) (Nat.le_refl _)) (HP.out.2.1.s.below K1.out.1 (Nat.le_refl _)) (slr_of (L := [y1]) K1.out.2.1) (by omega) HP.out.2.2.1 (runB_t HP.out.2.2.2.2 rfl) (by omega) (by omega) (by simp) (by have := HRd.out.1; omega) rfl).mono ?_
                    rintro e V2 ⟨hp, hb⟩
                    obtain ⟨qa, qb, qc, Y, hY, hqc, hqB, hYg, hP1, rfl⟩ := hp
                    have hsz : (W4.heap.size + 2) ≤ V1.heap.size := by have := K1.out.1.size; have := HJ.out.2.2; omega
                    have K2 := Lib.hid (show _ ∧ _ from ⟨below_after K1.out.1 hb K1.out.1.size, (HP.out.2.1.below K1.out.1 (Nat.le_refl _)).snoc hb hsz hqB hYg hP1⟩)
                    have HYY := Lib.hid (show _ ∧ _ from ⟨hY, hqc⟩)
                    clear hb hY hqc hqB hYg hP1 hsz
                    refine hK' _ _ (⟨blk_below HP.out.1 K2.out.1 (blk_lt HP.out.1), blk_below HJ.out.2.1 K2.out.1 (blk_lt HJ.out.2.1), (K2.out.1.cell (p := ⟨ab, ao + j * 3 + 1, none⟩) hwq).trans HAC.out.1, (K2.out.1.cell (p := ⟨ab, ao + j * 3 + 2, none⟩) hwq).trans HAC.out.2⟩) ?_
                    clear hK' K'
                    go_simp
                    refine wpAnyH_from (fuel := 3) 18 3 (fun _ _ _ _ _ h => h) (by kernel_rfl) (by decide) (by kernel_rfl) (⟨blk_below HP.out.1 K2.out.1 (blk_lt HP.out.1), blk_below HJ.out.2.1 K2.out.1 (blk_lt HJ.out.2.1), (K2.out.1.cell (p := ⟨ab, ao + j * 3 + 1, none⟩) hwq).trans HAC.out.1, (K2.out.1.cell (p := ⟨ab, ao + j * 3 + 2, none⟩) hwq).trans HAC.out.2⟩) ?_
                    simp only [List.drop_succ_cons, List.drop_zero, List.take_succ_cons, List.take_zero]
                    refine wpHeld_cons (.tuple #[.agg #[.slice sa sn sc, .slice qa (j + 1) qc, .int .i64 lf, .bool false], .int .i64 0]) (by kernel_rfl) ?_ ?_
                    · intro w' s
                      try go_simp
                    refine wpHeld_cons (.agg #[.slice sa sn sc, .slice qa (j + 1) qc, .int .i64 lf, .bool false]) (by kernel_rfl) ?_ ?_
                    · intro w' s
                      try go_simp
                    refine wpHeld_cons (.int .i64 0) (by kernel_rfl) ?_ ?_
                    · intro w' s
                      try go_simp
                    refine wpHeld_nil ?_
                    go_simp
                    refine wpAnyH_one (i := 21) (by kernel_rfl) rfl (by kernel_rfl) (fun K' hK' => ?_)
                    go_simp
                    have K3 := Lib.hid (show Below wr.heap.size wr (V2.alloc (.cells #[.slice none 0 0, .slice none 0 0, .int .i64 0, .bool false] 25)) ∧ wr.heap.size ≤ V2.heap.size ∧ _ ∧ True ∧ PensF (V2.alloc (.cells #[.slice none 0 0, .slice none 0 0, .int .i64 0, .bool false] 25)) W4.heap.size (W4.heap.size + 2) qa qb 0 (j + 1) (P ++ [((tt : Int), Y)]) ∧ PensF (V2.alloc (.cells #[.slice none 0 0, .slice none 0 0, .int .i64 0, .bool false] 25)) V2.heap.size (V2.heap.size + 1) qa qb 0 (j + 1) (P ++ [((tt : Int), Y)]) from ⟨K2.out.1.alloc K2.out.1.size (.cells #[.slice none 0 0, .slice none 0 0, .int .i64 0, .bool false] 25), K2.out.1.size, blk_new V2 (.cells #[.slice none 0 0, .slice none 0 0, .int .i64 0, .bool false] 25), trivial, K2.out.2.below ((Below.refl V2.heap.size V2).alloc (Nat.le_refl _) (.cells #[.slice none 0 0, .slice none 0 0, .int .i64 0, .bool false] 25)) (Nat.le_refl _), K2.out.2.s.f ((Below.refl V2.heap.size V2).alloc (Nat.le_refl _) (.cells #[.slice none 0 0, .slice none 0 0, .int .i64 0, .bool false] 25)) (Nat.le_refl _) (hi := V2.heap.size + 1)⟩)
                    generalize (V2.alloc (.cells #[.slice none 0 0, .slice none 0 0, .int .i64 0, .bool false] 25)) = V3 at *
                    refine hK' _ _ (⟨blk_below HP.out.1 K3.out.1 (blk_lt HP.out.1), blk_below HJ.out.2.1 K3.out.1 (blk_lt HJ.out.2.1), (K3.out.1.cell (p := ⟨ab, ao + j * 3 + 1, none⟩) hwq).trans HAC.out.1, (K3.out.1.cell (p := ⟨ab, ao + j * 3 + 2, none⟩) hwq).trans HAC.out.2⟩) ?_
                    clear hK' K'
                    go_simp
                    refine wpAnyH_one (i := 22) (by kernel_rfl) rfl (by kernel_rfl) (fun K' hK' => ?_)
                    have z0 := blk_cell K3.out.2.2.1 0
                    have f0 := blk_free K3.out.2.2.1 0
                    have z1 := blk_cell K3.out.2.2.1 1
                    have f1 := blk_free K3.out.2.2.1 1
                    have z2 := blk_cell K3.out.2.2.1 2
                    have f2 := blk_free K3.out.2.2.1 2
                    have z3 := blk_cell K3.out.2.2.1 3
                    have f3 := blk_free K3.out.2.2.1 3
                    go_simp
                    have hbF := cell4_below (u0 := (.slice sa sn sc)) (u1 := (.slice qa (j + 1) qc)) (u2 := (.int .i64 lf)) (u3 := (.bool false)) K3.out.2.1 K3.out.1
                    have HF := Lib.hid (show ((((V3.setCell ⟨V2.heap.size, 0, none⟩ (.slice sa sn sc)).setCell ⟨V2.heap.size, 1, none⟩ (.slice qa (j + 1) qc)).setCell ⟨V2.heap.size, 2, none⟩ (.int .i64 lf)).setCell ⟨V2.heap.size, 3, none⟩ (.bool false)).heap[V2.heap.size]? = some (.cells #[.slice sa sn sc, .slice qa (j + 1) qc, .int .i64 lf, .bool false] 25 (0, 0)) ∧ Below wr.heap.size wr ((((V3.setCell ⟨V2.heap.size, 0, none⟩ (.slice sa sn sc)).setCell ⟨V2.heap.size, 1, none⟩ (.slice qa (j + 1) qc)).setCell ⟨V2.heap.size, 2, none⟩ (.int .i64 lf)).setCell ⟨V2.heap.size, 3, none⟩ (.bool false)) ∧ PensF ((((V3.setCell ⟨V2.heap.size, 0, none⟩ (.slice sa sn sc)).setCell ⟨V2.heap.size, 1, none⟩ (.slice qa (j + 1) qc)).setCell ⟨V2.heap.size, 2, none⟩ (.int .i64 lf)).setCell ⟨V2.heap.size, 3, none⟩ (.bool false)) W4.heap.size (W4.heap.size + 2) qa qb 0 (j + 1) (P ++ [((tt : Int), Y)]) from ⟨cell4_set (u0 := (.slice sa sn sc)) (u1 := (.slice qa (j + 1) qc)) (u2 := (.int .i64 lf)) (u3 := (.bool false)) K3.out.2.2.1, hbF, K3.out.2.2.2.2.1.upd2 K3.out.2.2.2.2.2 (UpdR.set4 (c := V2.heap.size) (u0 := (.slice sa sn sc)) (u1 := (.slice qa (j + 1) qc)) (u2 := (.int .i64 lf)) (u3 := (.bool false)) (Nat.le_refl _) (Nat.lt_succ_self _))⟩)
                    clear z0 z1 z2 z3 f0 f1 f2 f3
                    refine hK' _ _ (⟨blk_below HP.out.1 hbF (blk_lt HP.out.1), blk_below HJ.out.2.1 hbF (blk_lt HJ.out.2.1), (hbF.cell (p := ⟨ab, ao + j * 3 + 1, none⟩) hwq).trans HAC.out.1, (hbF.cell (p := ⟨ab, ao + j * 3 + 2, none⟩) hwq).trans HAC.out.2⟩) ?_
                    clear hK' K'
                    go_simp
                    refine wpAnyH_from (fuel := 0) 23 1 (fun _ _ _ _ _ h => h) (by kernel_rfl) (by decide) (by kernel_rfl) (⟨blk_below HP.out.1 hbF (blk_lt HP.out.1), blk_below HJ.out.2.1 hbF (blk_lt HJ.out.2.1), (hbF.cell (p := ⟨ab, ao + j * 3 + 1, none⟩) hwq).trans HAC.out.1, (hbF.cell (p := ⟨ab, ao + j * 3 + 2, none⟩) hwq).trans HAC.out.2⟩) ?_
                    simp only [List.drop_succ_cons, List.drop_zero, List.take_succ_cons, List.take_zero]
                    refine wpHeld_cons (.int .i64 0) (by kernel_rfl) ?_ ?_
                    · intro w' s
                      try go_simp
                    refine wpHeld_nil ?_
                    go_simp
                    refine wpAnyH_done (by kernel_rfl) ?_ _
                    refine NoPanic.normal ?_
                    go_simp
                    go_wp2_with fail
                    go_meet
                    case rel => exact ⟨rfl, V2.heap.size, qa, qb, qc, Y, rfl, HYY.out.1, HYY.out.2, HF⟩
                  · go_simp
                    have K4 := Lib.hid (show Below wr.heap.size wr (V1.alloc (.cells #[.slice none 0 0, .slice none 0 0, .int .i64 0, .bool false] 25)) ∧ wr.heap.size ≤ V1.heap.size ∧ _ ∧ _ from ⟨K1.out.1.alloc K1.out.1.size (.cells #[.slice none 0 0, .slice none 0 0, .int .i64 0, .bool false] 25), K1.out.1.size, blk_new V1 (.cells #[.slice none 0 0, .slice none 0 0, .int .i64 0, .bool false] 25), blk_alloc K1.out.2.1 (.cells #[.slice none 0 0, .slice none 0 0, .int .i64 0, .bool false] 25)⟩)
                    generalize (V1.alloc (.cells #[.slice none 0 0, .slice none 0 0, .int .i64 0, .bool false] 25)) = V4 at *
                    refine hK' _ _ (⟨blk_below HP.out.1 K4.out.1 (blk_lt HP.out.1), blk_below HJ.out.2.1 K4.out.1 (blk_lt HJ.out.2.1), (K4.out.1.cell (p := ⟨ab, ao + j * 3 + 1, none⟩) hwq).trans HAC.out.1, (K4.out.1.cell (p := ⟨ab, ao + j * 3 + 2, none⟩) hwq).trans HAC.out.2⟩) ?_
                    clear hK' K'
                    go_simp
                    refine wpAnyH_one (i := 17) (by kernel_rfl) rfl (by kernel_rfl) (fun K' hK' => ?_)
                    go_simp
                    refine (write_ok S P lf sa sb so sn sc ra rb 0 j rc (tt : Int) (some ⟨wr.heap.size, 0, none⟩, 1, [y1]) (j + 1) _ (HA.out.1.below (HJ.out.1.trans (K4.out.1.mono HJ.out.1.size)) (Nat.le_refl _)) (HP.out.2.1.s.below K4.out.1 (Nat.le_refl _)) (slr_of (L := [y1]) K4.out.2.2.2) (by omega) HP.out.2.2.1 (runB_t HP.out.2.2.2.2 rfl) (by omega) (by omega) (by simp) (by have := HRd.out.1; omega) rfl).mono ?_
                    rintro e V5 ⟨hp, hb⟩
                    obtain ⟨qa, qb, qc, Y, hY, hqc, hqB, hYg, hP1, rfl⟩ := hp
                    have hsz : (W4.heap.size + 2) ≤ V4.heap.size := by have := K4.out.1.size; have := HJ.out.2.2; omega
                    have K5 := Lib.hid (show _ ∧ _ ∧ _ ∧ PensF V5 V1.heap.size (V1.heap.size + 1) qa qb 0 (j + 1) (P ++ [((tt : Int), Y)]) from ⟨below_after K4.out.1 hb K4.out.1.size, (HP.out.2.1.below K4.out.1 (Nat.le_refl _)).snoc hb hsz hqB hYg hP1, blk_below K4.out.2.2.1 hb (blk_lt K4.out.2.2.1), (HP.out.2.1.s.f K4.out.1 K4.out.2.1 (hi := V1.heap.size + 1)).snoc hb (by have := blk_lt K4.out.2.2.1; omega) hqB hYg hP1⟩)
                    have HYY := Lib.hid (show _ ∧ _ from ⟨hY, hqc⟩)
                    clear hb hY hqc hqB hYg hP1 hsz
                    refine hK' _ _ (⟨blk_below HP.out.1 K5.out.1 (blk_lt HP.out.1), blk_below HJ.out.2.1 K5.out.1 (blk_lt HJ.out.2.1), (K5.out.1.cell (p := ⟨ab, ao + j * 3 + 1, none⟩) hwq).trans HAC.out.1, (K5.out.1.cell (p := ⟨ab, ao + j * 3 + 2, none⟩) hwq).trans HAC.out.2⟩) ?_
                    clear hK' K'
                    go_simp
                    refine wpAnyH_from (fuel := 2) 18 3 (fun _ _ _ _ _ h => h) (by kernel_rfl) (by decide) (by kernel_rfl) (⟨blk_below HP.out.1 K5.out.1 (blk_lt HP.out.1), blk_below HJ.out.2.1 K5.out.1 (blk_lt HJ.out.2.1), (K5.out.1.cell (p := ⟨ab, ao + j * 3 + 1, none⟩) hwq).trans HAC.out.1, (K5.out.1.cell (p := ⟨ab, ao + j * 3 + 2, none⟩) hwq).trans HAC.out.2⟩) ?_
                    simp only [List.drop_succ_cons, List.drop_zero, List.take_succ_cons, List.take_zero]
                    refine wpHeld_cons (.tuple #[.agg #[.slice sa sn sc, .slice qa (j + 1) qc, .int .i64 lf, .bool false], .int .i64 0]) (by kernel_rfl) ?_ ?_
                    · intro w' s
                      try go_simp
                    refine wpHeld_cons (.agg #[.slice sa sn sc, .slice qa (j + 1) qc, .int .i64 lf, .bool false]) (by kernel_rfl) ?_ ?_
                    · intro w' s
                      try go_simp
                    refine wpHeld_cons (.int .i64 0) (by kernel_rfl) ?_ ?_
                    · intro w' s
                      try go_simp
                    refine wpHeld_nil ?_
                    go_simp
                    refine wpAnyH_one (i := 22) (by kernel_rfl) rfl (by kernel_rfl) (fun K' hK' => ?_)
                    have z0 := blk_cell K5.out.2.2.1 0
                    have f0 := blk_free K5.out.2.2.1 0
                    have z1 := blk_cell K5.out.2.2.1 1
                    have f1 := blk_free K5.out.2.2.1 1
                    have z2 := blk_cell K5.out.2.2.1 2
                    have f2 := blk_free K5.out.2.2.1 2
                    have z3 := blk_cell K5.out.2.2.1 3
                    have f3 := blk_free K5.out.2.2.1 3
                    go_simp
                    have hbF := cell4_below (u0 := (.slice sa sn sc)) (u1 := (.slice qa (j + 1) qc)) (u2 := (.int .i64 lf)) (u3 := (.bool false)) K4.out.2.1 K5.out.1
                    have HF := Lib.hid (show ((((V5.setCell ⟨V1.heap.size, 0, none⟩ (.slice sa sn sc)).setCell ⟨V1.heap.size, 1, none⟩ (.slice qa (j + 1) qc)).setCell ⟨V1.heap.size, 2, none⟩ (.int .i64 lf)).setCell ⟨V1.heap.size, 3, none⟩ (.bool false)).heap[V1.heap.size]? = some (.cells #[.slice sa sn sc, .slice qa (j + 1) qc, .int .i64 lf, .bool false] 25 (0, 0)) ∧ Below wr.heap.size wr ((((V5.setCell ⟨V1.heap.size, 0, none⟩ (.slice sa sn sc)).setCell ⟨V1.heap.size, 1, none⟩ (.slice qa (j + 1) qc)).setCell ⟨V1.heap.size, 2, none⟩ (.int .i64 lf)).setCell ⟨V1.heap.size, 3, none⟩ (.bool false)) ∧ PensF ((((V5.setCell ⟨V1.heap.size, 0, none⟩ (.slice sa sn sc)).setCell ⟨V1.heap.size, 1, none⟩ (.slice qa (j + 1) qc)).setCell ⟨V1.heap.size, 2, none⟩ (.int .i64 lf)).setCell ⟨V1.heap.size, 3, none⟩ (.bool false)) W4.heap.size (W4.heap.size + 2) qa qb 0 (j + 1) (P ++ [((tt : Int), Y)]) from ⟨cell4_set (u0 := (.slice sa sn sc)) (u1 := (.slice qa (j + 1) qc)) (u2 := (.int .i64 lf)) (u3 := (.bool false)) K5.out.2.2.1, hbF, K5.out.2.1.upd2 K5.out.2.2.2 (UpdR.set4 (c := V1.heap.size) (u0 := (.slice sa sn sc)) (u1 := (.slice qa (j + 1) qc)) (u2 := (.int .i64 lf)) (u3 := (.bool false)) (Nat.le_refl _) (Nat.lt_succ_self _))⟩)
                    clear z0 z1 z2 z3 f0 f1 f2 f3
                    refine hK' _ _ (⟨blk_below HP.out.1 hbF (blk_lt HP.out.1), blk_below HJ.out.2.1 hbF (blk_lt HJ.out.2.1), (hbF.cell (p := ⟨ab, ao + j * 3 + 1, none⟩) hwq).trans HAC.out.1, (hbF.cell (p := ⟨ab, ao + j * 3 + 2, none⟩) hwq).trans HAC.out.2⟩) ?_
                    clear hK' K'
                    go_simp
                    refine wpAnyH_from (fuel := 0) 23 1 (fun _ _ _ _ _ h => h) (by kernel_rfl) (by decide) (by kernel_rfl) (⟨blk_below HP.out.1 hbF (blk_lt HP.out.1), blk_below HJ.out.2.1 hbF (blk_lt HJ.out.2.1), (hbF.cell (p := ⟨ab, ao + j * 3 + 1, none⟩) hwq).trans HAC.out.1, (hbF.cell (p := ⟨ab, ao + j * 3 + 2, none⟩) hwq).trans HAC.out.2⟩) ?_
                    simp only [List.drop_succ_cons, List.drop_zero, List.take_succ_cons, List.take_zero]
                    refine wpHeld_cons (.int .i64 0) (by kernel_rfl) ?_ ?_
                    · intro w' s
                      try go_simp
                    refine wpHeld_nil ?_
                    go_simp
                    refine wpAnyH_done (by kernel_rfl) ?_ _
                    refine NoPanic.normal ?_
                    go_simp
                    go_wp2_with fail
                    go_meet
                    case rel => exact ⟨rfl, V1.heap.size, qa, qb, qc, Y, rfl, HYY.out.1, HYY.out.2, HF⟩
                · go_simp
                  have K6 := Lib.hid (show Below wr.heap.size wr (wr.alloc (.cells #[.slice none 0 0, .slice none 0 0, .int .i64 0, .bool false] 25)).drew ∧ wr.heap.size ≤ wr.heap.size ∧ _ ∧ True from ⟨((Below.refl wr.heap.size wr).alloc (Nat.le_refl _) (.cells #[.slice none 0 0, .slice none 0 0, .int .i64 0, .bool false] 25)).drew, Nat.le_refl _, blk_drew (blk_new wr (.cells #[.slice none 0 0, .slice none 0 0, .int .i64 0, .bool false] 25)), trivial⟩)
                  generalize (wr.alloc (.cells #[.slice none 0 0, .slice none 0 0, .int .i64 0, .bool false] 25)).drew = V6 at *
                  refine hK' _ _ (⟨blk_below HP.out.1 K6.out.1 (blk_lt HP.out.1), blk_below HJ.out.2.1 K6.out.1 (blk_lt HJ.out.2.1), (K6.out.1.cell (p := ⟨ab, ao + j * 3 + 1, none⟩) hwq).trans HAC.out.1, (K6.out.1.cell (p := ⟨ab, ao + j * 3 + 2, none⟩) hwq).trans HAC.out.2⟩) ?_
                  clear hK' K'
                  go_simp
                  refine wpAnyH_one (i := 16) (by kernel_rfl) rfl (by kernel_rfl) (fun K' hK' => ?_)
                  go_simp
                  have K7 := Lib.hid (show Below wr.heap.size wr (V6.alloc (.cells #[.int .u8 y1] 5)) ∧ _ ∧ _ from ⟨K6.out.1.alloc K6.out.1.size (.cells #[.int .u8 y1] 5), blk_new V6 (.cells #[.int .u8 y1] 5), blk_alloc K6.out.2.2.1 (.cells #[.int .u8 y1] 5)⟩)
                  generalize (V6.alloc (.cells #[.int .u8 y1] 5)) = V7 at *
                  refine hK' _ _ (⟨blk_below HP.out.1 K7.out.1 (blk_lt HP.out.1), blk_below HJ.out.2.1 K7.out.1 (blk_lt HJ.out.2.1), (K7.out.1.cell (p := ⟨ab, ao + j * 3 + 1, none⟩) hwq).trans HAC.out.1, (K7.out.1.cell (p := ⟨ab, ao + j * 3 + 2, none⟩) hwq).trans HAC.out.2⟩) ?_
                  clear hK' K'
                  go_simp
                  refine wpAnyH_one (i := 17) (by kernel_rfl) rfl (by kernel_rfl) (fun K' hK' => ?_)
                  go_simp
                  refine (write_ok S P lf sa sb so sn sc ra rb 0 j rc (tt : Int) (some ⟨V6.heap.size, 0, none⟩, 1, [y1]) (j + 1) _ (HA.out.1.below (HJ.out.1.trans (K7.out.1.mono HJ.out.1.size)) (Nat.le_refl _)) (HP.out.2.1.s.below K7.out.1 (Nat.le_refl _)) (slr_of (L := [y1]) K7.out.2.1) (by omega) HP.out.2.2.1 (runB_t HP.out.2.2.2.2 rfl) (by omega) (by omega) (by simp) (by have := HRd.out.1; omega) rfl).mono ?_
                  rintro e V8 ⟨hp, hb⟩
                  obtain ⟨qa, qb, qc, Y, hY, hqc, hqB, hYg, hP1, rfl⟩ := hp
                  have hsz : (W4.heap.size + 2) ≤ V7.heap.size := by have := K7.out.1.size; have := HJ.out.2.2; omega
                  have K8 := Lib.hid (show _ ∧ _ ∧ _ ∧ PensF V8 wr.heap.size (wr.heap.size + 1) qa qb 0 (j + 1) (P ++ [((tt : Int), Y)]) from ⟨below_after K7.out.1 hb K7.out.1.size, (HP.out.2.1.below K7.out.1 (Nat.le_refl _)).snoc hb hsz hqB hYg hP1, blk_below K7.out.2.2 hb (blk_lt K7.out.2.2), (HP.out.2.1.s.f K7.out.1 K6.out.2.1 (hi := wr.heap.size + 1)).snoc hb (by have := blk_lt K7.out.2.2; omega) hqB hYg hP1⟩)
                  have HYY := Lib.hid (show _ ∧ _ from ⟨hY, hqc⟩)
                  clear hb hY hqc hqB hYg hP1 hsz
                  refine hK' _ _ (⟨blk_below HP.out.1 K8.out.1 (blk_lt HP.out.1), blk_below HJ.out.2.1 K8.out.1 (blk_lt HJ.out.2.1), (K8.out.1.cell (p := ⟨ab, ao + j * 3 + 1, none⟩) hwq).trans HAC.out.1, (K8.out.1.cell (p := ⟨ab, ao + j * 3 + 2, none⟩) hwq).trans HAC.out.2⟩) ?_
                  clear hK' K'
                  go_simp
                  refine wpAnyH_from (fuel := 2) 18 3 (fun _ _ _ _ _ h => h) (by kernel_rfl) (by decide) (by kernel_rfl) (⟨blk_below HP.out.1 K8.out.1 (blk_lt HP.out.1), blk_below HJ.out.2.1 K8.out.1 (blk_lt HJ.out.2.1), (K8.out.1.cell (p := ⟨ab, ao + j * 3 + 1, none⟩) hwq).trans HAC.out.1, (K8.out.1.cell (p := ⟨ab, ao + j * 3 + 2, none⟩) hwq).trans HAC.out.2⟩) ?_
                  simp only [List.drop_succ_cons, List.drop_zero, List.take_succ_cons, List.take_zero]
                  refine wpHeld_cons (.tuple #[.agg #[.slice sa sn sc, .slice qa (j + 1) qc, .int .i64 lf, .bool false], .int .i64 0]) (by kernel_rfl) ?_ ?_
                  · intro w' s
                    try go_simp
                  refine wpHeld_cons (.agg #[.slice sa sn sc, .slice qa (j + 1) qc, .int .i64 lf, .bool false]) (by kernel_rfl) ?_ ?_
                  · intro w' s
                    try go_simp
                  refine wpHeld_cons (.int .i64 0) (by kernel_rfl) ?_ ?_
                  · intro w' s
                    try go_simp
                  refine wpHeld_nil ?_
                  go_simp
                  refine wpAnyH_one (i := 22) (by kernel_rfl) rfl (by kernel_rfl) (fun K' hK' => ?_)
                  have z0 := blk_cell K8.out.2.2.1 0
                  have f0 := blk_free K8.out.2.2.1 0
                  have z1 := blk_cell K8.out.2.2.1 1
                  have f1 := blk_free K8.out.2.2.1 1
                  have z2 := blk_cell K8.out.2.2.1 2
                  have f2 := blk_free K8.out.2.2.1 2
                  have z3 := blk_cell K8.out.2.2.1 3
                  have f3 := blk_free K8.out.2.2.1 3
                  go_simp
                  have hbF := cell4_below (u0 := (.slice sa sn sc)) (u1 := (.slice qa (j + 1) qc)) (u2 := (.int .i64 lf)) (u3 := (.bool false)) K6.out.2.1 K8.out.1
                  have HF := Lib.hid (show ((((V8.setCell ⟨wr.heap.size, 0, none⟩ (.slice sa sn sc)).setCell ⟨wr.heap.size, 1, none⟩ (.slice qa (j + 1) qc)).setCell ⟨wr.heap.size, 2, none⟩ (.int .i64 lf)).setCell ⟨wr.heap.size, 3, none⟩ (.bool false)).heap[wr.heap.size]? = some (.cells #[.slice sa sn sc, .slice qa (j + 1) qc, .int .i64 lf, .bool false] 25 (0, 0)) ∧ Below wr.heap.size wr ((((V8.setCell ⟨wr.heap.size, 0, none⟩ (.slice sa sn sc)).setCell ⟨wr.heap.size, 1, none⟩ (.slice qa (j + 1) qc)).setCell ⟨wr.heap.size, 2, none⟩ (.int .i64 lf)).setCell ⟨wr.heap.size, 3, none⟩ (.bool false)) ∧ PensF ((((V8.setCell ⟨wr.heap.size, 0, none⟩ (.slice sa sn sc)).setCell ⟨wr.heap.size, 1, none⟩ (.slice qa (j + 1) qc)).setCell ⟨wr.heap.size, 2, none⟩ (.int .i64 lf)).setCell ⟨wr.heap.size, 3, none⟩ (.bool false)) W4.heap.size (W4.heap.size + 2) qa qb 0 (j + 1) (P ++ [((tt : Int), Y)]) from ⟨cell4_set (u0 := (.slice sa sn sc)) (u1 := (.slice qa (j + 1) qc)) (u2 := (.int .i64 lf)) (u3 := (.bool false)) K8.out.2.2.1, hbF, K8.out.2.1.upd2 K8.out.2.2.2 (UpdR.set4 (c := wr.heap.size) (u0 := (.slice sa sn sc)) (u1 := (.slice qa (j + 1) qc)) (u2 := (.int .i64 lf)) (u3 := (.bool false)) (Nat.le_refl _) (Nat.lt_succ_self _))⟩)
                  clear z0 z1 z2 z3 f0 f1 f2 f3
                  refine hK' _ _ (⟨blk_below HP.out.1 hbF (blk_lt HP.out.1), blk_below HJ.out.2.1 hbF (blk_lt HJ.out.2.1), (hbF.cell (p := ⟨ab, ao + j * 3 + 1, none⟩) hwq).trans HAC.out.1, (hbF.cell (p := ⟨ab, ao + j * 3 + 2, none⟩) hwq).trans HAC.out.2⟩) ?_
                  clear hK' K'
                  go_simp
                  refine wpAnyH_from (fuel := 0) 23 1 (fun _ _ _ _ _ h => h) (by kernel_rfl) (by decide) (by kernel_rfl) (⟨blk_below HP.out.1 hbF (blk_lt HP.out.1), blk_below HJ.out.2.1 hbF (blk_lt HJ.out.2.1), (hbF.cell (p := ⟨ab, ao + j * 3 + 1, none⟩) hwq).trans HAC.out.1, (hbF.cell (p := ⟨ab, ao + j * 3 + 2, none⟩) hwq).trans HAC.out.2⟩) ?_
                  simp only [List.drop_succ_cons, List.drop_zero, List.take_succ_cons, List.take_zero]
                  refine wpHeld_cons (.int .i64 0) (by kernel_rfl) ?_ ?_
                  · intro w' s
                    try go_simp
                  refine wpHeld_nil ?_
                  go_simp
                  refine wpAnyH_done (by kernel_rfl) ?_ _
                  refine NoPanic.normal ?_
                  go_simp
                  go_wp2_with fail
                  go_meet
                  case rel => exact ⟨rfl, wr.heap.size, qa, qb, qc, Y, rfl, HYY.out.1, HYY.out.2, HF⟩
              case rest =>
                obtain ⟨rfl, bz, qa, qb, qc, Y, rfl, hY, hqc, HZ⟩ := hcut
                have z0 := blk_cell HZ.out.1 0
                have z1 := blk_cell HZ.out.1 1
                have z2 := blk_cell HZ.out.1 2
                have z3 := blk_cell HZ.out.1 3
                have hy6 := blk_below HP.out.1 HZ.out.2.1 (blk_lt HP.out.1)
                have y0 := blk_cell hy6 0
                have y1' := blk_cell hy6 1
                have y2 := blk_cell hy6 2
                have y3 := blk_cell hy6 3
                have f0 := blk_free hy6 0
                have f1 := blk_free hy6 1
                have f2 := blk_free hy6 2
                have f3 := blk_free hy6 3
                have HQ := Lib.hid (And.intro hY hqc)
                clear hY hqc
                go_upto_region 17 with fail
                have hdn : w.heap.size ≠ b6 := by have := blk_lt H4.out.2; omega
                have h5b : b5 < wr.heap.size := by have := HJ.out.2.2; omega
                have HJn := Lib.hid (show Below w.heap.size w ((((wc.setCell ⟨b6, 0, none⟩ (.slice sa sn sc)).setCell ⟨b6, 1, none⟩ (.slice qa (j + 1) qc)).setCell ⟨b6, 2, none⟩ (.int .i64 lf)).setCell ⟨b6, 3, none⟩ (.bool false)) ∧ ((((wc.setCell ⟨b6, 0, none⟩ (.slice sa sn sc)).setCell ⟨b6, 1, none⟩ (.slice qa (j + 1) qc)).setCell ⟨b6, 2, none⟩ (.int .i64 lf)).setCell ⟨b6, 3, none⟩ (.bool false)).heap[w.heap.size]? = some (.cells #[.slice sa sn sc, .slice pa 0 pc, .int .i64 lf, .bool false] 25 (0, 0)) ∧ (W4.heap.size + 2) ≤ ((((wc.setCell ⟨b6, 0, none⟩ (.slice sa sn sc)).setCell ⟨b6, 1, none⟩ (.slice qa (j + 1) qc)).setCell ⟨b6, 2, none⟩ (.int .i64 lf)).setCell ⟨b6, 3, none⟩ (.bool false)).heap.size from ⟨cell4_below (u0 := (.slice sa sn sc)) (u1 := (.slice qa (j + 1) qc)) (u2 := (.int .i64 lf)) (u3 := (.bool false)) (by have := H4.out.1.size; omega) (below_after HJ.out.1 HZ.out.2.1 HJ.out.1.size), cell4_other (u0 := (.slice sa sn sc)) (u1 := (.slice qa (j + 1) qc)) (u2 := (.int .i64 lf)) (u3 := (.bool false)) (blk_below HJ.out.2.1 HZ.out.2.1 (blk_lt HJ.out.2.1)) hdn, by have := HZ.out.2.1.size; have := HJ.out.2.2; simp only [World.size_setCell]; omega⟩)
                have HYn : Hid (YRel l lf sa sc W4.heap.size (W4.heap.size + 2) b6 sn (j + 1) ((((wc.setCell ⟨b6, 0, none⟩ (.slice sa sn sc)).setCell ⟨b6, 1, none⟩ (.slice qa (j + 1) qc)).setCell ⟨b6, 2, none⟩ (.int .i64 lf)).setCell ⟨b6, 3, none⟩ (.bool false))) := Lib.hid ⟨qa, qb, qc, _, cell4_set (u0 := (.slice sa sn sc)) (u1 := (.slice qa (j + 1) qc)) (u2 := (.int .i64 lf)) (u3 := (.bool false)) hy6, HZ.out.2.2.upd (UpdR.set4 (c := b6) (u0 := (.slice sa sn sc)) (u1 := (.slice qa (j + 1) qc)) (u2 := (.int .i64 lf)) (u3 := (.bool false)) h61 h62), HQ.out.2, by have := HP.out.2.2.2.1.snoc (Y := Y) (by rw [HRd.out.2.2]; exact HQ.out.1); rwa [← HRd.out.2.1] at this⟩
                have HXn : Hid (XRel S l lf W4.heap.size (W4.heap.size + 2) b5 sn an an 40 ((((wc.setCell ⟨b6, 0, none⟩ (.slice sa sn sc)).setCell ⟨b6, 1, none⟩ (.slice qa (j + 1) qc)).setCell ⟨b6, 2, none⟩ (.int .i64 lf)).setCell ⟨b6, 3, none⟩ (.bool false))) := Lib.hid ((HX.out.below HZ.out.2.1 h5b).upd (UpdR.set4 (c := b6) (u0 := (.slice sa sn sc)) (u1 := (.slice qa (j + 1) qc)) (u2 := (.int .i64 lf)) (u3 := (.bool false)) h61 h62) (cell4_keep (u0 := (.slice sa sn sc)) (u1 := (.slice qa (j + 1) qc)) (u2 := (.int .i64 lf)) (u3 := (.bool false)) h56))
                clear z0 z1 z2 z3 y0 y1' y2 y3 f0 f1 f2 f3 hdn h5b hy6 HZ
                generalize ((((wc.setCell ⟨b6, 0, none⟩ (.slice sa sn sc)).setCell ⟨b6, 1, none⟩ (.slice qa (j + 1) qc)).setCell ⟨b6, 2, none⟩ (.int .i64 lf)).setCell ⟨b6, 3, none⟩ (.bool false)) = W8 at *
                go_wp2_with fail
                go_roundw
                case rel => exact ⟨j + 1, HRd.out.1, by go_num, HJn, HYn, HXn⟩
                case measure => have := HRd.out.1; simp [intOf]; omega
            · obtain rfl : an = j := by omega
              have j1 : ¬ (an : Int) < (an : Int) := by omega
              have x0 := blk_cell HP.out.1 0
              have x1 := blk_cell HP.out.1 1
              have x2 := blk_cell HP.out.1 2
              have x3 := blk_cell HP.out.1 3
              clear hja hj
              go_wp2_with fail
              clear x0 x1 x2 x3
              by_cases hd : lf = -1 ∨ (an : Int) ≤ lf
              · exfalso
                rcases HX.out with ⟨h, _⟩ | ⟨_, h2, h3, _⟩
                · exact absurd h (by decide)
                · omega
              · have hd0 : 0 ≤ lf := by omega
                have hd1 : lf < (an : Int) := by omega
                obtain ⟨hE, hok⟩ : 40 = (40 : Int) ∧ XTorn S l lf W4.heap.size (W4.heap.size + 2) b5 sn wr := by
                  rcases HX.out with ⟨_, h2, _⟩ | ⟨h1, _, _, h4⟩
                  · omega
                  · exact ⟨h1, h4⟩
                clear hE
                obtain ⟨sx, bx, ox, cx, Sx, hx5, hSx, hcx⟩ := hok
                obtain ⟨m, hm⟩ : ∃ m, m = lf.toNat := ⟨_, rfl⟩
                have hma : m < an := by omega
                rw [← hm] at hcx
                have HXX := Lib.hid (show _ ∧ _ ∧ _ from ⟨hx5, hSx, hcx⟩)
                clear hx5 hSx hcx
                refine (sync_any S P lf false sa sb so sn sc ra rb 0 an rc wr (HA.out.1.below HJ.out.1 (Nat.le_refl _)) HP.out.2.1.s (by omega) (by omega) HP.out.2.2.1 hsz).mono ?_
                rintro e W9 ⟨hp, hb⟩
                obtain ⟨b3, cap3, Y3, hcap3, hB3, hYg3, hY3, hS3, rfl⟩ := hp.torn (runB_t HP.out.2.2.2.2 rfl) hd0 hd1
                rw [← hm] at hS3 hY3
                obtain ⟨e1, e2⟩ := HP.out.2.2.2.1.2 m hma
                rw [e1, Int.toNat_natCast] at hS3 hY3
                rw [e2] at hY3
                obtain ⟨U, hU⟩ : ∃ U, U = (perfK S P m).set (atA l sn m) Y3 := ⟨_, rfl⟩
                have hcU : ∀ i, i < sn → (nS U i).2.2 = tornA S l sn m i := by rw [hU]; exact torn_step ((perfK_len S P m).trans hSl) (cont_perf hSl hsp HP.out.2.2.2.1 m (by omega)) hY3
                have hSF := secsF_torn (((HA.out.1.f HJ.out.1 H4.out.1.size))) HP.out.2.1 (k := m) (by omega) hb HJ.out.2.2 hB3 hYg3 hS3
                rw [← hU] at hS3 hSF
                have HSF := Lib.hid hSF
                clear hSF
                have HCU := Lib.hid hcU
                clear hU hcU e1 e2 hY3 hm
                have hy9 := blk_below HP.out.1 hb (blk_lt HP.out.1)
                have x0 := blk_cell hy9 0
                have x1 := blk_cell hy9 1
                have x2 := blk_cell hy9 2
                have x3 := blk_cell hy9 3
                have f0 := blk_free hy9 0
                have f1 := blk_free hy9 1
                have f2 := blk_free hy9 2
                have f3 := blk_free hy9 3
                have h5b : b5 < wr.heap.size := by have := HJ.out.2.2; omega
                have HB9 := Lib.hid (show _ ∧ _ ∧ _ from ⟨hb, hS3, hB3⟩)
                clear hp hb hS3 hB3
                go_upto_region 23 with fail
                have HE := Lib.hid (show Below w.heap.size w ((((W9.setCell ⟨b6, 0, none⟩ (.slice (some ⟨b3, 0, none⟩) sn cap3)).setCell ⟨b6, 1, none⟩ (.slice none 0 0)).setCell ⟨b6, 2, none⟩ (.int .i64 0)).setCell ⟨b6, 3, none⟩ (.bool true)) ∧ ((((W9.setCell ⟨b6, 0, none⟩ (.slice (some ⟨b3, 0, none⟩) sn cap3)).setCell ⟨b6, 1, none⟩ (.slice none 0 0)).setCell ⟨b6, 2, none⟩ (.int .i64 0)).setCell ⟨b6, 3, none⟩ (.bool true)).heap[b5]? = some (.cells #[.slice sx sn cx, .slice none 0 0, .int .i64 0, .bool true] 25 (0, 0)) ∧ ((((W9.setCell ⟨b6, 0, none⟩ (.slice (some ⟨b3, 0, none⟩) sn cap3)).setCell ⟨b6, 1, none⟩ (.slice none 0 0)).setCell ⟨b6, 2, none⟩ (.int .i64 0)).setCell ⟨b6, 3, none⟩ (.bool true)).heap[b6]? = some (.cells #[.slice (some ⟨b3, 0, none⟩) sn cap3, .slice none 0 0, .int .i64 0, .bool true] 25 (0, 0)) ∧ Secs ((((W9.setCell ⟨b6, 0, none⟩ (.slice (some ⟨b3, 0, none⟩) sn cap3)).setCell ⟨b6, 1, none⟩ (.slice none 0 0)).setCell ⟨b6, 2, none⟩ (.int .i64 0)).setCell ⟨b6, 3, none⟩ (.bool true)) sx bx ox sn Sx ∧ Secs ((((W9.setCell ⟨b6, 0, none⟩ (.slice (some ⟨b3, 0, none⟩) sn cap3)).setCell ⟨b6, 1, none⟩ (.slice none 0 0)).setCell ⟨b6, 2, none⟩ (.int .i64 0)).setCell ⟨b6, 3, none⟩ (.bool true)) (some ⟨b3, 0, none⟩) b3 0 sn U from ⟨cell4_below (u0 := (.slice (some ⟨b3, 0, none⟩) sn cap3)) (u1 := (.slice none 0 0)) (u2 := (.int .i64 0)) (u3 := (.bool true)) (by have := H4.out.1.size; omega) (below_after HJ.out.1 HB9.out.1 HJ.out.1.size), cell4_other (u0 := (.slice (some ⟨b3, 0, none⟩) sn cap3)) (u1 := (.slice none 0 0)) (u2 := (.int .i64 0)) (u3 := (.bool true)) (blk_below HXX.out.1 HB9.out.1 h5b) h56, cell4_set (u0 := (.slice (some ⟨b3, 0, none⟩) sn cap3)) (u1 := (.slice none 0 0)) (u2 := (.int .i64 0)) (u3 := (.bool true)) hy9, ((HXX.out.2.1.below HB9.out.1 (Nat.le_refl _)).upd (UpdR.set4 (c := b6) (u0 := (.slice (some ⟨b3, 0, none⟩) sn cap3)) (u1 := (.slice none 0 0)) (u2 := (.int .i64 0)) (u3 := (.bool true)) h61 h62)).s, ((show SecsF W9 W4.heap.size (W4.heap.size + 2) (some ⟨b3, 0, none⟩) b3 0 sn U from HSF.out).upd (UpdR.set4 (c := b6) (u0 := (.slice (some ⟨b3, 0, none⟩) sn cap3)) (u1 := (.slice none 0 0)) (u2 := (.int .i64 0)) (u3 := (.bool true)) h61 h62)).s⟩)
                clear x0 x1 x2 x3 f0 f1 f2 f3 hy9 h5b
                generalize ((((W9.setCell ⟨b6, 0, none⟩ (.slice (some ⟨b3, 0, none⟩) sn cap3)).setCell ⟨b6, 1, none⟩ (.slice none 0 0)).setCell ⟨b6, 2, none⟩ (.int .i64 0)).setCell ⟨b6, 3, none⟩ (.bool true)) = W10 at *
                have x0 := blk_cell HE.out.2.1 0
                have x1 := blk_cell HE.out.2.1 1
                have x2 := blk_cell HE.out.2.1 2
                have x3 := blk_cell HE.out.2.1 3
                have y0 := blk_cell HE.out.2.2.1 0
                have y1 := blk_cell HE.out.2.2.1 1
                have y2 := blk_cell HE.out.2.2.1 2
                have y3 := blk_cell HE.out.2.2.1 3
                go_wp2_with fail
                refine (same_any Sx U [] [] 0 true sx (some ⟨b3, 0, none⟩) bx ox b3 0 sn cx cap3 none none 0 0 0 0 0 0 0 _ HE.out.2.2.2.1 (pens_nil _ _) HE.out.2.2.2.2 (pens_nil _ _) (by omega) (by omega) (fun i hi => (HXX.out.2.2 i hi).trans (HCU.out i hi).symm) (fun i hi => by omega)).mono ?_
                rintro e W11 ⟨rfl, hb11⟩
                have HFin := Lib.hid (below_after HE.out.1 hb11 HE.out.1.size)
                clear hb11 x0 x1 x2 x3 y0 y1 y2 y3
                go_wp2
                go_ret
                exact ⟨rfl, HFin.out⟩
        · obtain rfl : an = k := by omega
          have j1 : ¬ (an : Int) < (an : Int) := by omega
          clear HX1 hgo hk hka
          have HJ0 := Lib.hid (show Below w.heap.size w wr ∧ wr.heap[w.heap.size]? = some (.cells #[.slice sa sn sc, .slice pa 0 pc, .int .i64 lf, .bool false] 25 (0, 0)) ∧ (W4.heap.size + 2) ≤ wr.heap.size from ⟨HI1.out.1, HI1.out.2.1, HI1.out.2.2.2⟩)
          have HY0 : Hid (YRel l lf sa sc W4.heap.size (W4.heap.size + 2) b6 sn 0 wr) := Lib.hid ⟨pa, 0, pc, [], HI1.out.2.2.1, pensF_nil _ _ _ _, Nat.zero_le _, rfl, fun j hj => by omega⟩
          clear HI1
          go_wp2_with fail
          go_loopw [12] (fun v wr => ∃ j : Nat, j ≤ an ∧ v = .int .i64 j ∧ Hid (Below w.heap.size w wr ∧ wr.heap[w.heap.size]? = some (.cells #[.slice sa sn sc, .slice pa 0 pc, .int .i64 lf, .bool false] 25 (0, 0)) ∧ (W4.heap.size + 2) ≤ wr.heap.size) ∧ Hid (YRel l lf sa sc W4.heap.size (W4.heap.size + 2) b6 sn j wr) ∧ Hid (XRel S l lf W4.heap.size (W4.heap.size + 2) b5 sn an an E wr)) (fun v _ => an - (intOf v).toNat)
          case atStart => exact ⟨0, Nat.zero_le _, rfl, HJ0, HY0, HXf⟩
          case round =>
            obtain ⟨j, hj, rfl, HJ, HY, HX⟩ := hrel
            obtain ⟨ra, rb, rc, P, hy6, hPf, hrc, hPA⟩ := HY.out
            have hVP := valid_pens HV.out hSl hsp hPA (by omega)
            have HP := Lib.hid (show _ ∧ _ ∧ _ ∧ _ ∧ _ from ⟨hy6, hPf, hrc, hPA, hVP⟩)
            clear hy6 hPf hrc hPA hVP HY
            by_cases hja : j < an
            · have hsn0 : ¬ sn = 0 := by omega
              have j1 : (j : Int) < (an : Int) := by omega
              have j2 : ¬ (j : Int) < 0 := by omega
              have u1 : IntKind.i64.wrap ((j : Int) + 1) = ((j + 1 : Nat) : Int) := (wrap_id (by omega)).trans (by omega)
              have hAs := HA.out.2.2.1.grown (w' := wr) (HJ.out.1)
              obtain ⟨rfl, hab⟩ := hAs.2.1 (by omega)
              obtain ⟨-, a1, a2⟩ := hAs.2.2 j hja
              have hwf := HA.out.2.2.2 j hja
              have hatt := atA_int (l := l) (k := j) hsp
              have htl := atA_lt (l := l) (k := j) hsp
              obtain ⟨tt, htt⟩ : ∃ tt, tt = atA l sn j := ⟨_, rfl⟩
              have hdat : dataA l j = padL [(nthA l j).2.2] := rfl
              obtain ⟨v1, hv1⟩ : ∃ v1, v1 = (nthA l j).2.1 := ⟨_, rfl⟩
              obtain ⟨y1, hy1⟩ : ∃ y1, y1 = (nthA l j).2.2 := ⟨_, rfl⟩
              rw [← htt] at hatt htl
              rw [← hv1] at a1 hatt
              rw [← hy1] at a2 hdat
              have hvb : 0 ≤ v1 ∧ v1 ≤ 255 := by rw [hv1]; exact hwf.1
              have u2 : IntKind.i64.wrap v1 = v1 := wrap_id (by omega)
              have m1 : v1.tmod (sn : Int) = (tt : Int) := by rw [Int.tmod_eq_emod_of_nonneg hvb.1]; exact hatt
              have hwq : ab < wr.heap.size := by have := HJ.out.1.size; have := HA.out.2.2.1.2.1 (by omega); omega
              have HRd := Lib.hid (show _ ∧ _ ∧ _ from ⟨hja, htt, hdat⟩)
              have HAC := Lib.hid (And.intro a1 a2)
              clear hja htt hdat hv1 hy1 hwf hAs hj a1 a2
              have m2 : v1 % (sn : Int) = (tt : Int) := hatt
              clear hatt
              go_wp2_with fail
              have HBr := Lib.hid (Below.refl wr.heap.size wr)
              go_cut [13, 14] from 94 to 115 (fun p v wx => v = .int .i64 0 ∧ ∃ (bz : Nat) (qa : Option Addr) (qb qc : Nat) (Y : Sl), p = .pointer (some ⟨bz, 0, none⟩) ∧ Y.2.2 = padL [y1] ∧ j + 1 ≤ qc ∧ Hid (wx.heap[bz]? = some (.cells #[.slice sa sn sc, .slice qa (j + 1) qc, .int .i64 lf, .bool false] 25 (0, 0)) ∧ Below wr.heap.size wr wx ∧ PensF wx W4.heap.size (W4.heap.size + 2) qa qb 0 (j + 1) (P ++ [((tt : Int), Y)])))
              case first =>
                refine wp_region_from 0 16 (fun w' => w'.heap[b6]? = some (.cells #[.slice sa sn sc, .slice ra j rc, .int .i64 lf, .bool false] 25 (0, 0)) ∧ w'.heap[w.heap.size]? = some (.cells #[.slice sa sn sc, .slice pa 0 pc, .int .i64 lf, .bool false] 25 (0, 0)) ∧ w'.cell? ⟨ab, ao + j * 3 + 1, none⟩ = some (.int .u8 v1) ∧ w'.cell? ⟨ab, ao + j * 3 + 2, none⟩ = some (.int .u8 y1)) (by kernel_rfl) (by kernel_rfl) (by decide) (by kernel_rfl) (⟨blk_below HP.out.1 ((Below.refl wr.heap.size wr).drew) (blk_lt HP.out.1), blk_below HJ.out.2.1 ((Below.refl wr.heap.size wr).drew) (blk_lt HJ.out.2.1), (((Below.refl wr.heap.size wr).drew).cell (p := ⟨ab, ao + j * 3 + 1, none⟩) hwq).trans HAC.out.1, (((Below.refl wr.heap.size wr).drew).cell (p := ⟨ab, ao + j * 3 + 2, none⟩) hwq).trans HAC.out.2⟩) ?_
                simp only [List.drop_zero, List.take_succ_cons, List.take_zero]
                refine wpHeld_cons (.agg #[.slice sa sn sc, .slice ra j rc, .int .i64 lf, .bool false]) (by kernel_rfl) ?_ ?_
                · rintro w' ⟨s1, s2, s3, s4⟩
                  have y0 := blk_cell s1 0
                  simp at y0
                  have y1 := blk_cell s1 1
                  simp at y1
                  have y2 := blk_cell s1 2
                  simp at y2
                  have y3 := blk_cell s1 3
                  simp at y3
                  try go_simp
                refine wpHeld_cons (.slice (some ⟨ab, ao, none⟩) an ac) (by kernel_rfl) ?_ ?_
                · rintro w' ⟨s1, s2, s3, s4⟩
                  try go_simp
                refine wpHeld_cons (.int .i64 (j : Int)) (by kernel_rfl) ?_ ?_
                · rintro w' ⟨s1, s2, s3, s4⟩
                  try go_simp
                refine wpHeld_cons (.pointer (some ⟨ab, ao + j * 3, none⟩)) (by kernel_rfl) ?_ ?_
                · rintro w' ⟨s1, s2, s3, s4⟩
                  try go_simp
                refine wpHeld_cons (.pointer (some ⟨ab, ao + j * 3 + 1, none⟩)) (by kernel_rfl) ?_ ?_
                · rintro w' ⟨s1, s2, s3, s4⟩
                  try go_simp
                refine wpHeld_cons (.int .u8 v1) (by kernel_rfl) ?_ ?_
                · rintro w' ⟨s1, s2, s3, s4⟩
                  try go_simp
                refine wpHeld_cons (.int .i64 v1) (by kernel_rfl) ?_ ?_
                · rintro w' ⟨s1, s2, s3, s4⟩
                  try go_simp
                refine wpHeld_cons (.pointer (some ⟨w.heap.size, 0, none⟩)) (by kernel_rfl) ?_ ?_
                · rintro w' ⟨s1, s2, s3, s4⟩
                  try go_simp
                refine wpHeld_cons (.slice sa sn sc) (by kernel_rfl) ?_ ?_
                · rintro w' ⟨s1, s2, s3, s4⟩
                  have y0 := blk_cell s2 0
                  simp at y0
                  have y1 := blk_cell s2 1
                  simp at y1
                  have y2 := blk_cell s2 2
                  simp at y2
                  have y3 := blk_cell s2 3
                  simp at y3
                  try go_simp
                refine wpHeld_cons (.int .i64 (sn : Int)) (by kernel_rfl) ?_ ?_
                · rintro w' ⟨s1, s2, s3, s4⟩
                  try go_simp
                refine wpHeld_cons (.int .i64 (tt : Int)) (by kernel_rfl) ?_ ?_
                · rintro w' ⟨s1, s2, s3, s4⟩
                  try go_simp
                refine wpHeld_cons (.slice (some ⟨ab, ao, none⟩) an ac) (by kernel_rfl) ?_ ?_
                · rintro w' ⟨s1, s2, s3, s4⟩
                  try go_simp
                refine wpHeld_cons (.int .i64 (j : Int)) (by kernel_rfl) ?_ ?_
                · rintro w' ⟨s1, s2, s3, s4⟩
                  try go_simp
                refine wpHeld_cons (.pointer (some ⟨ab, ao + j * 3, none⟩)) (by kernel_rfl) ?_ ?_
                · rintro w' ⟨s1, s2, s3, s4⟩
                  try go_simp
                refine wpHeld_cons (.pointer (some ⟨ab, ao + j * 3 + 2, none⟩)) (by kernel_rfl) ?_ ?_
                · rintro w' ⟨s1, s2, s3, s4⟩
                  try go_simp
                refine wpHeld_cons (.int .u8 y1) (by kernel_rfl) ?_ ?_
                · rintro w' ⟨s1, s2, s3, s4⟩
                  try go_simp
                refine wpHeld_nil ?_
                go_simp
                refine wpAnyH_two (i := 16) (j := 21) (by kernel_rfl) rfl rfl (by kernel_rfl) (by kernel_rfl) (fun K' hK' => ?_) (fun K' hK' => ?_)
                · go_simp
                  have K1 := Lib.hid (show Below wr.heap.size wr (wr.alloc (.cells #[.int .u8 y1] 5)).drew ∧ _ ∧ _ from ⟨((Below.refl wr.heap.size wr).alloc (Nat.le_refl _) (.cells #[.int .u8 y1] 5)).drew, blk_drew (blk_new wr (.cells #[.int .u8 y1] 5)), trivial⟩)
                  generalize (wr.alloc (.cells #[.int .u8 y1] 5)).drew = V1 at *
                  refine hK' _ _ (⟨blk_below HP.out.1 K1.out.1 (blk_lt HP.out.1), blk_below HJ.out.2.1 K1.out.1 (blk_lt HJ.out.2.1), (K1.out.1.cell (p := ⟨ab, ao + j * 3 + 1, none⟩) hwq).trans HAC.out.1, (K1.out.1.cell (p := ⟨ab, ao + j * 3 + 2, none⟩) hwq).trans HAC.out.2⟩) ?_
                  clear hK' K'
                  go_simp
                  refine wpAnyH_two (i := 17) (j := 21) (by kernel_rfl) rfl rfl (by kernel_rfl) (by kernel_rfl) (fun K' hK' => ?_) (fun K' hK' => ?_)
                  · go_simp
                    refine (write_ok S P lf sa sb so sn sc ra rb 0 j rc (tt : Int) (some ⟨wr.heap.size, 0, none⟩, 1, [y1]) (j + 1) _ (HA.out.1.below (HJ.out.1.trans (K1.out.1.mono HJ.out.1.size)) (Nat.le_refl _)) (HP.out.2.1.s.below K1.out.1 (Nat.le_refl _)) (slr_of (L := [y1]) K1.out.2.1) (by omega) HP.out.2.2.1 (runB_t HP.out.2.2.2.2 rfl) (by omega) (by omega) (by simp) (by have := HRd.out.1; omega) rfl).mono ?_
                    rintro e V2 ⟨hp, hb⟩
                    obtain ⟨qa, qb, qc, Y, hY, hqc, hqB, hYg, hP1, rfl⟩ := hp
                    have hsz : (W4.heap.size + 2) ≤ V1.heap.size := by have := K1.out.1.size; have := HJ.out.2.2; omega
                    have K2 := Lib.hid (show _ ∧ _ from ⟨below_after K1.out.1 hb K1.out.1.size, (HP.out.2.1.below K1.out.1 (Nat.le_refl _)).snoc hb hsz hqB hYg hP1⟩)
                    have HYY := Lib.hid (show _ ∧ _ from ⟨hY, hqc⟩)
                    clear hb hY hqc hqB hYg hP1 hsz
                    refine hK' _ _ (⟨blk_below HP.out.1 K2.out.1 (blk_lt HP.out.1), blk_below HJ.out.2.1 K2.out.1 (blk_lt HJ.out.2.1), (K2.out.1.cell (p := ⟨ab, ao + j * 3 + 1, none⟩) hwq).trans HAC.out.1, (K2.out.1.cell (p := ⟨ab, ao + j * 3 + 2, none⟩) hwq).trans HAC.out.2⟩) ?_
                    clear hK' K'
                    go_simp
                    refine wpAnyH_from (fuel := 3) 18 3 (fun _ _ _ _ _ h => h) (by kernel_rfl) (by decide) (by kernel_rfl) (⟨blk_below HP.out.1 K2.out.1 (blk_lt HP.out.1), blk_below HJ.out.2.1 K2.out.1 (blk_lt HJ.out.2.1), (K2.out.1.cell (p := ⟨ab, ao + j * 3 + 1, none⟩) hwq).trans HAC.out.1, (K2.out.1.cell (p := ⟨ab, ao + j * 3 + 2, none⟩) hwq).trans HAC.out.2⟩) ?_
                    simp only [List.drop_succ_cons, List.drop_zero, List.take_succ_cons, List.take_zero]
                    refine wpHeld_cons (.tuple #[.agg #[.slice sa sn sc, .slice qa (j + 1) qc, .int .i64 lf, .bool false], .int .i64 0]) (by kernel_rfl) ?_ ?_
                    · intro w' s
                      try go_simp
                    refine wpHeld_cons (.agg #[.slice sa sn sc, .slice qa (j + 1) qc, .int .i64 lf, .bool false]) (by kernel_rfl) ?_ ?_
                    · intro w' s
                      try go_simp
                    refine wpHeld_cons (.int .i64 0) (by kernel_rfl) ?_ ?_
                    · intro w' s
                      try go_simp
                    refine wpHeld_nil ?_
                    go_simp
                    refine wpAnyH_one (i := 21) (by kernel_rfl) rfl (by kernel_rfl) (fun K' hK' => ?_)
                    go_simp
                    have K3 := Lib.hid (show Below wr.heap.size wr (V2.alloc (.cells #[.slice none 0 0, .slice none 0 0, .int .i64 0, .bool false] 25)) ∧ wr.heap.size ≤ V2.heap.size ∧ _ ∧ True ∧ PensF (V2.alloc (.cells #[.slice none 0 0, .slice none 0 0, .int .i64 0, .bool false] 25)) W4.heap.size (W4.heap.size + 2) qa qb 0 (j + 1) (P ++ [((tt : Int), Y)]) ∧ PensF (V2.alloc (.cells #[.slice none 0 0, .slice none 0 0, .int .i64 0, .bool false] 25)) V2.heap.size (V2.heap.size + 1) qa qb 0 (j + 1) (P ++ [((tt : Int), Y)]) from ⟨K2.out.1.alloc K2.out.1.size (.cells #[.slice none 0 0, .slice none 0 0, .int .i64 0, .bool false] 25), K2.out.1.size, blk_new V2 (.cells #[.slice none 0 0, .slice none 0 0, .int .i64 0, .bool false] 25), trivial, K2.out.2.below ((Below.refl V2.heap.size V2).alloc (Nat.le_refl _) (.cells #[.slice none 0 0, .slice none 0 0, .int .i64 0, .bool false] 25)) (Nat.le_refl _), K2.out.2.s.f ((Below.refl V2.heap.size V2).alloc (Nat.le_refl _) (.cells #[.slice none 0 0, .slice none 0 0, .int .i64 0, .bool false] 25)) (Nat.le_refl _) (hi := V2.heap.size + 1)⟩)
                    generalize (V2.alloc (.cells #[.slice none 0 0, .slice none 0 0, .int .i64 0, .bool false] 25)) = V3 at *
                    refine hK' _ _ (⟨blk_below HP.out.1 K3.out.1 (blk_lt HP.out.1), blk_below HJ.out.2.1 K3.out.1 (blk_lt HJ.out.2.1), (K3.out.1.cell (p := ⟨ab, ao + j * 3 + 1, none⟩) hwq).trans HAC.out.1, (K3.out.1.cell (p := ⟨ab, ao + j * 3 + 2, none⟩) hwq).trans HAC.out.2⟩) ?_
                    clear hK' K'
                    go_simp
                    refine wpAnyH_one (i := 22) (by kernel_rfl) rfl (by kernel_rfl) (fun K' hK' => ?_)
                    have z0 := blk_cell K3.out.2.2.1 0
                    have f0 := blk_free K3.out.2.2.1 0
                    have z1 := blk_cell K3.out.2.2.1 1
                    have f1 := blk_free K3.out.2.2.1 1
                    have z2 := blk_cell K3.out.2.2.1 2
                    have f2 := blk_free K3.out.2.2.1 2
                    have z3 := blk_cell K3.out.2.2.1 3
                    have f3 := blk_free K3.out.2.2.1 3
                    go_simp
                    have hbF := cell4_below (u0 := (.slice sa sn sc)) (u1 := (.slice qa (j + 1) qc)) (u2 := (.int .i64 lf)) (u3 := (.bool false)) K3.out.2.1 K3.out.1
                    have HF := Lib.hid (show ((((V3.setCell ⟨V2.heap.size, 0, none⟩ (.slice sa sn sc)).setCell ⟨V2.heap.size, 1, none⟩ (.slice qa (j + 1) qc)).setCell ⟨V2.heap.size, 2, none⟩ (.int .i64 lf)).setCell ⟨V2.heap.size, 3, none⟩ (.bool false)).heap[V2.heap.size]? = some (.cells #[.slice sa sn sc, .slice qa (j + 1) qc, .int .i64 lf, .bool false] 25 (0, 0)) ∧ Below wr.heap.size wr ((((V3.setCell ⟨V2.heap.size, 0, none⟩ (.slice sa sn sc)).setCell ⟨V2.heap.size, 1, none⟩ (.slice qa (j + 1) qc)).setCell ⟨V2.heap.size, 2, none⟩ (.int .i64 lf)).setCell ⟨V2.heap.size, 3, none⟩ (.bool false)) ∧ PensF ((((V3.setCell ⟨V2.heap.size, 0, none⟩ (.slice sa sn sc)).setCell ⟨V2.heap.size, 1, none⟩ (.slice qa (j + 1) qc)).setCell ⟨V2.heap.size, 2, none⟩ (.int .i64 lf)).setCell ⟨V2.heap.size, 3, none⟩ (.bool false)) W4.heap.size (W4.heap.size + 2) qa qb 0 (j + 1) (P ++ [((tt : Int), Y)]) from ⟨cell4_set (u0 := (.slice sa sn sc)) (u1 := (.slice qa (j + 1) qc)) (u2 := (.int .i64 lf)) (u3 := (.bool false)) K3.out.2.2.1, hbF, K3.out.2.2.2.2.1.upd2 K3.out.2.2.2.2.2 (UpdR.set4 (c := V2.heap.size) (u0 := (.slice sa sn sc)) (u1 := (.slice qa (j + 1) qc)) (u2 := (.int .i64 lf)) (u3 := (.bool false)) (Nat.le_refl _) (Nat.lt_succ_self _))⟩)
                    clear z0 z1 z2 z3 f0 f1 f2 f3
                    refine hK' _ _ (⟨blk_below HP.out.1 hbF (blk_lt HP.out.1), blk_below HJ.out.2.1 hbF (blk_lt HJ.out.2.1), (hbF.cell (p := ⟨ab, ao + j * 3 + 1, none⟩) hwq).trans HAC.out.1, (hbF.cell (p := ⟨ab, ao + j * 3 + 2, none⟩) hwq).trans HAC.out.2⟩) ?_
                    clear hK' K'
                    go_simp
                    refine wpAnyH_from (fuel := 0) 23 1 (fun _ _ _ _ _ h => h) (by kernel_rfl) (by decide) (by kernel_rfl) (⟨blk_below HP.out.1 hbF (blk_lt HP.out.1), blk_below HJ.out.2.1 hbF (blk_lt HJ.out.2.1), (hbF.cell (p := ⟨ab, ao + j * 3 + 1, none⟩) hwq).trans HAC.out.1, (hbF.cell (p := ⟨ab, ao + j * 3 + 2, none⟩) hwq).trans HAC.out.2⟩) ?_
                    simp only [List.drop_succ_cons, List.drop_zero, List.take_succ_cons, List.take_zero]
                    refine wpHeld_cons (.int .i64 0) (by kernel_rfl) ?_ ?_
                    · intro w' s
                      try go_simp
                    refine wpHeld_nil ?_
                    go_simp
                    refine wpAnyH_done (by kernel_rfl) ?_ _
                    refine NoPanic.normal ?_
                    go_simp
                    go_wp2_with fail
                    go_meet
                    case rel => exact ⟨rfl, V2.heap.size, qa, qb, qc, Y, rfl, HYY.out.1, HYY.out.2, HF⟩
                  · go_simp
                    have K4 := Lib.hid (show Below wr.heap.size wr (V1.alloc (.cells #[.slice none 0 0, .slice none 0 0, .int .i64 0, .bool false] 25)) ∧ wr.heap.size ≤ V1.heap.size ∧ _ ∧ _ from ⟨K1.out.1.alloc K1.out.1.size (.cells #[.slice none 0 0, .slice none 0 0, .int .i64 0, .bool false] 25), K1.out.1.size, blk_new V1 (.cells #[.slice none 0 0, .slice none 0 0, .int .i64 0, .bool false] 25), blk_alloc K1.out.2.1 (.cells #[.slice none 0 0, .slice none 0 0, .int .i64 0, .bool false] 25)⟩)
                    generalize (V1.alloc (.cells #[.slice none 0 0, .slice none 0 0, .int .i64 0, .bool false] 25)) = V4 at *
                    refine hK' _ _ (⟨blk_below HP.out.1 K4.out.1 (blk_lt HP.out.1), blk_below HJ.out.2.1 K4.out.1 (blk_lt HJ.out.2.1), (K4.out.1.cell (p := ⟨ab, ao + j * 3 + 1, none⟩) hwq).trans HAC.out.1, (K4.out.1.cell (p := ⟨ab, ao + j * 3 + 2, none⟩) hwq).trans HAC.out.2⟩) ?_
                    clear hK' K'
                    go_simp
                    refine wpAnyH_one (i := 17) (by kernel_rfl) rfl (by kernel_rfl) (fun K' hK' => ?_)
                    go_simp
                    refine (write_ok S P lf sa sb so sn sc ra rb 0 j rc (tt : Int) (some ⟨wr.heap.size, 0, none⟩, 1, [y1]) (j + 1) _ (HA.out.1.below (HJ.out.1.trans (K4.out.1.mono HJ.out.1.size)) (Nat.le_refl _)) (HP.out.2.1.s.below K4.out.1 (Nat.le_refl _)) (slr_of (L := [y1]) K4.out.2.2.2) (by omega) HP.out.2.2.1 (runB_t HP.out.2.2.2.2 rfl) (by omega) (by omega) (by simp) (by have := HRd.out.1; omega) rfl).mono ?_
                    rintro e V5 ⟨hp, hb⟩
                    obtain ⟨qa, qb, qc, Y, hY, hqc, hqB, hYg, hP1, rfl⟩ := hp
                    have hsz : (W4.heap.size + 2) ≤ V4.heap.size := by have := K4.out.1.size; have := HJ.out.2.2; omega
                    have K5 := Lib.hid (show _ ∧ _ ∧ _ ∧ PensF V5 V1.heap.size (V1.heap.size + 1) qa qb 0 (j + 1) (P ++ [((tt : Int), Y)]) from ⟨below_after K4.out.1 hb K4.out.1.size, (HP.out.2.1.below K4.out.1 (Nat.le_refl _)).snoc hb hsz hqB hYg hP1, blk_below K4.out.2.2.1 hb (blk_lt K4.out.2.2.1), (HP.out.2.1.s.f K4.out.1 K4.out.2.1 (hi := V1.heap.size + 1)).snoc hb (by have := blk_lt K4.out.2.2.1; omega) hqB hYg hP1⟩)
                    have HYY := Lib.hid (show _ ∧ _ from ⟨hY, hqc⟩)
                    clear hb hY hqc hqB hYg hP1 hsz
                    refine hK' _ _ (⟨blk_below HP.out.1 K5.out.1 (blk_lt HP.out.1), blk_below HJ.out.2.1 K5.out.1 (blk_lt HJ.out.2.1), (K5.out.1.cell (p := ⟨ab, ao + j * 3 + 1, none⟩) hwq).trans HAC.out.1, (K5.out.1.cell (p := ⟨ab, ao + j * 3 + 2, none⟩) hwq).trans HAC.out.2⟩) ?_
                    clear hK' K'
                    go_simp
                    refine wpAnyH_from (fuel := 2) 18 3 (fun _ _ _ _ _ h => h) (by kernel_rfl) (by decide) (by kernel_rfl) (⟨blk_below HP.out.1 K5.out.1 (blk_lt HP.out.1), blk_below HJ.out.2.1 K5.out.1 (blk_lt HJ.out.2.1), (K5.out.1.cell (p := ⟨ab, ao + j * 3 + 1, none⟩) hwq).trans HAC.out.1, (K5.out.1.cell (p := ⟨ab, ao + j * 3 + 2, none⟩) hwq).trans HAC.out.2⟩) ?_
                    simp only [List.drop_succ_cons, List.drop_zero, List.take_succ_cons, List.take_zero]
                    refine wpHeld_cons (.tuple #[.agg #[.slice sa sn sc, .slice qa (j + 1) qc, .int .i64 lf, .bool false], .int .i64 0]) (by kernel_rfl) ?_ ?_
                    · intro w' s
                      try go_simp
                    refine wpHeld_cons (.agg #[.slice sa sn sc, .slice qa (j + 1) qc, .int .i64 lf, .bool false]) (by kernel_rfl) ?_ ?_
                    · intro w' s
                      try go_simp
                    refine wpHeld_cons (.int .i64 0) (by kernel_rfl) ?_ ?_
                    · intro w' s
                      try go_simp
                    refine wpHeld_nil ?_
                    go_simp
                    refine wpAnyH_one (i := 22) (by kernel_rfl) rfl (by kernel_rfl) (fun K' hK' => ?_)
                    have z0 := blk_cell K5.out.2.2.1 0
                    have f0 := blk_free K5.out.2.2.1 0
                    have z1 := blk_cell K5.out.2.2.1 1
                    have f1 := blk_free K5.out.2.2.1 1
                    have z2 := blk_cell K5.out.2.2.1 2
                    have f2 := blk_free K5.out.2.2.1 2
                    have z3 := blk_cell K5.out.2.2.1 3
                    have f3 := blk_free K5.out.2.2.1 3
                    go_simp
                    have hbF := cell4_below (u0 := (.slice sa sn sc)) (u1 := (.slice qa (j + 1) qc)) (u2 := (.int .i64 lf)) (u3 := (.bool false)) K4.out.2.1 K5.out.1
                    have HF := Lib.hid (show ((((V5.setCell ⟨V1.heap.size, 0, none⟩ (.slice sa sn sc)).setCell ⟨V1.heap.size, 1, none⟩ (.slice qa (j + 1) qc)).setCell ⟨V1.heap.size, 2, none⟩ (.int .i64 lf)).setCell ⟨V1.heap.size, 3, none⟩ (.bool false)).heap[V1.heap.size]? = some (.cells #[.slice sa sn sc, .slice qa (j + 1) qc, .int .i64 lf, .bool false] 25 (0, 0)) ∧ Below wr.heap.size wr ((((V5.setCell ⟨V1.heap.size, 0, none⟩ (.slice sa sn sc)).setCell ⟨V1.heap.size, 1, none⟩ (.slice qa (j + 1) qc)).setCell ⟨V1.heap.size, 2, none⟩ (.int .i64 lf)).setCell ⟨V1.heap.size, 3, none⟩ (.bool false)) ∧ PensF ((((V5.setCell ⟨V1.heap.size, 0, none⟩ (.slice sa sn sc)).setCell ⟨V1.heap.size, 1, none⟩ (.slice qa (j + 1) qc)).setCell ⟨V1.heap.size, 2, none⟩ (.int .i64 lf)).setCell ⟨V1.heap.size, 3, none⟩ (.bool false)) W4.heap.size (W4.heap.size + 2) qa qb 0 (j + 1) (P ++ [((tt : Int), Y)]) from ⟨cell4_set (u0 := (.slice sa sn sc)) (u1 := (.slice qa (j + 1) qc)) (u2 := (.int .i64 lf)) (u3 := (.bool false)) K5.out.2.2.1, hbF, K5.out.2.1.upd2 K5.out.2.2.2 (UpdR.set4 (c := V1.heap.size) (u0 := (.slice sa sn sc)) (u1 := (.slice qa (j + 1) qc)) (u2 := (.int .i64 lf)) (u3 := (.bool false)) (Nat.le_refl _) (Nat.lt_succ_self _))⟩)
                    clear z0 z1 z2 z3 f0 f1 f2 f3
                    refine hK' _ _ (⟨blk_below HP.out.1 hbF (blk_lt HP.out.1), blk_below HJ.out.2.1 hbF (blk_lt HJ.out.2.1), (hbF.cell (p := ⟨ab, ao + j * 3 + 1, none⟩) hwq).trans HAC.out.1, (hbF.cell (p := ⟨ab, ao + j * 3 + 2, none⟩) hwq).trans HAC.out.2⟩) ?_
                    clear hK' K'
                    go_simp
                    refine wpAnyH_from (fuel := 0) 23 1 (fun _ _ _ _ _ h => h) (by kernel_rfl) (by decide) (by kernel_rfl) (⟨blk_below HP.out.1 hbF (blk_lt HP.out.1), blk_below HJ.out.2.1 hbF (blk_lt HJ.out.2.1), (hbF.cell (p := ⟨ab, ao + j * 3 + 1, none⟩) hwq).trans HAC.out.1, (hbF.cell (p := ⟨ab, ao + j * 3 + 2, none⟩) hwq).trans HAC.out.2⟩) ?_
                    simp only [List.drop_succ_cons, List.drop_zero, List.take_succ_cons, List.take_zero]
                    refine wpHeld_cons (.int .i64 0) (by kernel_rfl) ?_ ?_
                    · intro w' s
                      try go_simp
                    refine wpHeld_nil ?_
                    go_simp
                    refine wpAnyH_done (by kernel_rfl) ?_ _
                    refine NoPanic.normal ?_
                    go_simp
                    go_wp2_with fail
                    go_meet
                    case rel => exact ⟨rfl, V1.heap.size, qa, qb, qc, Y, rfl, HYY.out.1, HYY.out.2, HF⟩
                · go_simp
                  have K6 := Lib.hid (show Below wr.heap.size wr (wr.alloc (.cells #[.slice none 0 0, .slice none 0 0, .int .i64 0, .bool false] 25)).drew ∧ wr.heap.size ≤ wr.heap.size ∧ _ ∧ True from ⟨((Below.refl wr.heap.size wr).alloc (Nat.le_refl _) (.cells #[.slice none 0 0, .slice none 0 0, .int .i64 0, .bool false] 25)).drew, Nat.le_refl _, blk_drew (blk_new wr (.cells #[.slice none 0 0, .slice none 0 0, .int .i64 0, .bool false] 25)), trivial⟩)
                  generalize (wr.alloc (.cells #[.slice none 0 0, .slice none 0 0, .int .i64 0, .bool false] 25)).drew = V6 at *
                  refine hK' _ _ (⟨blk_below HP.out.1 K6.out.1 (blk_lt HP.out.1), blk_below HJ.out.2.1 K6.out.1 (blk_lt HJ.out.2.1), (K6.out.1.cell (p := ⟨ab, ao + j * 3 + 1, none⟩) hwq).trans HAC.out.1, (K6.out.1.cell (p := ⟨ab, ao + j * 3 + 2, none⟩) hwq).trans HAC.out.2⟩) ?_
                  clear hK' K'
                  go_simp
                  refine wpAnyH_one (i := 16) (by kernel_rfl) rfl (by kernel_rfl) (fun K' hK' => ?_)
                  go_simp
                  have K7 := Lib.hid (show Below wr.heap.size wr (V6.alloc (.cells #[.int .u8 y1] 5)) ∧ _ ∧ _ from ⟨K6.out.1.alloc K6.out.1.size (.cells #[.int .u8 y1] 5), blk_new V6 (.cells #[.int .u8 y1] 5), blk_alloc K6.out.2.2.1 (.cells #[.int .u8 y1] 5)⟩)
                  generalize (V6.alloc (.cells #[.int .u8 y1] 5)) = V7 at *
                  refine hK' _ _ (⟨blk_below HP.out.1 K7.out.1 (blk_lt HP.out.1), blk_below HJ.out.2.1 K7.out.1 (blk_lt HJ.out.2.1), (K7.out.1.cell (p := ⟨ab, ao + j * 3 + 1, none⟩) hwq).trans HAC.out.1, (K7.out.1.cell (p := ⟨ab, ao + j * 3 + 2, none⟩) hwq).trans HAC.out.2⟩) ?_
                  clear hK' K'
                  go_simp
                  refine wpAnyH_one (i := 17) (by kernel_rfl) rfl (by kernel_rfl) (fun K' hK' => ?_)
                  go_simp
                  refine (write_ok S P lf sa sb so sn sc ra rb 0 j rc (tt : Int) (some ⟨V6.heap.size, 0, none⟩, 1, [y1]) (j + 1) _ (HA.out.1.below (HJ.out.1.trans (K7.out.1.mono HJ.out.1.size)) (Nat.le_refl _)) (HP.out.2.1.s.below K7.out.1 (Nat.le_refl _)) (slr_of (L := [y1]) K7.out.2.1) (by omega) HP.out.2.2.1 (runB_t HP.out.2.2.2.2 rfl) (by omega) (by omega) (by simp) (by have := HRd.out.1; omega) rfl).mono ?_
                  rintro e V8 ⟨hp, hb⟩
                  obtain ⟨qa, qb, qc, Y, hY, hqc, hqB, hYg, hP1, rfl⟩ := hp
                  have hsz : (W4.heap.size + 2) ≤ V7.heap.size := by have := K7.out.1.size; have := HJ.out.2.2; omega
                  have K8 := Lib.hid (show _ ∧ _ ∧ _ ∧ PensF V8 wr.heap.size (wr.heap.size + 1) qa qb 0 (j + 1) (P ++ [((tt : Int), Y)]) from ⟨below_after K7.out.1 hb K7.out.1.size, (HP.out.2.1.below K7.out.1 (Nat.le_refl _)).snoc hb hsz hqB hYg hP1, blk_below K7.out.2.2 hb (blk_lt K7.out.2.2), (HP.out.2.1.s.f K7.out.1 K6.out.2.1 (hi := wr.heap.size + 1)).snoc hb (by have := blk_lt K7.out.2.2; omega) hqB hYg hP1⟩)
                  have HYY := Lib.hid (show _ ∧ _ from ⟨hY, hqc⟩)
                  clear hb hY hqc hqB hYg hP1 hsz
                  refine hK' _ _ (⟨blk_below HP.out.1 K8.out.1 (blk_lt HP.out.1), blk_below HJ.out.2.1 K8.out.1 (blk_lt HJ.out.2.1), (K8.out.1.cell (p := ⟨ab, ao + j * 3 + 1, none⟩) hwq).trans HAC.out.1, (K8.out.1.cell (p := ⟨ab, ao + j * 3 + 2, none⟩) hwq).trans HAC.out.2⟩) ?_
                  clear hK' K'
                  go_simp
                  refine wpAnyH_from (fuel := 2) 18 3 (fun _ _ _ _ _ h => h) (by kernel_rfl) (by decide) (by kernel_rfl) (⟨blk_below HP.out.1 K8.out.1 (blk_lt HP.out.1), blk_below HJ.out.2.1 K8.out.1 (blk_lt HJ.out.2.1), (K8.out.1.cell (p := ⟨ab, ao + j * 3 + 1, none⟩) hwq).trans HAC.out.1, (K8.out.1.cell (p := ⟨ab, ao + j * 3 + 2, none⟩) hwq).trans HAC.out.2⟩) ?_
                  simp only [List.drop_succ_cons, List.drop_zero, List.take_succ_cons, List.take_zero]
                  refine wpHeld_cons (.tuple #[.agg #[.slice sa sn sc, .slice qa (j + 1) qc, .int .i64 lf, .bool false], .int .i64 0]) (by kernel_rfl) ?_ ?_
                  · intro w' s
                    try go_simp
                  refine wpHeld_cons (.agg #[.slice sa sn sc, .slice qa (j + 1) qc, .int .i64 lf, .bool false]) (by kernel_rfl) ?_ ?_
                  · intro w' s
                    try go_simp
                  refine wpHeld_cons (.int .i64 0) (by kernel_rfl) ?_ ?_
                  · intro w' s
                    try go_simp
                  refine wpHeld_nil ?_
                  go_simp
                  refine wpAnyH_one (i := 22) (by kernel_rfl) rfl (by kernel_rfl) (fun K' hK' => ?_)
                  have z0 := blk_cell K8.out.2.2.1 0
                  have f0 := blk_free K8.out.2.2.1 0
                  have z1 := blk_cell K8.out.2.2.1 1
                  have f1 := blk_free K8.out.2.2.1 1
                  have z2 := blk_cell K8.out.2.2.1 2
                  have f2 := blk_free K8.out.2.2.1 2
                  have z3 := blk_cell K8.out.2.2.1 3
                  have f3 := blk_free K8.out.2.2.1 3
                  go_simp
                  have hbF := cell4_below (u0 := (.slice sa sn sc)) (u1 := (.slice qa (j + 1) qc)) (u2 := (.int .i64 lf)) (u3 := (.bool false)) K6.out.2.1 K8.out.1
                  have HF := Lib.hid (show ((((V8.setCell ⟨wr.heap.size, 0, none⟩ (.slice sa sn sc)).setCell ⟨wr.heap.size, 1, none⟩ (.slice qa (j + 1) qc)).setCell ⟨wr.heap.size, 2, none⟩ (.int .i64 lf)).setCell ⟨wr.heap.size, 3, none⟩ (.bool false)).heap[wr.heap.size]? = some (.cells #[.slice sa sn sc, .slice qa (j + 1) qc, .int .i64 lf, .bool false] 25 (0, 0)) ∧ Below wr.heap.size wr ((((V8.setCell ⟨wr.heap.size, 0, none⟩ (.slice sa sn sc)).setCell ⟨wr.heap.size, 1, none⟩ (.slice qa (j + 1) qc)).setCell ⟨wr.heap.size, 2, none⟩ (.int .i64 lf)).setCell ⟨wr.heap.size, 3, none⟩ (.bool false)) ∧ PensF ((((V8.setCell ⟨wr.heap.size, 0, none⟩ (.slice sa sn sc)).setCell ⟨wr.heap.size, 1, none⟩ (.slice qa (j + 1) qc)).setCell ⟨wr.heap.size, 2, none⟩ (.int .i64 lf)).setCell ⟨wr.heap.size, 3, none⟩ (.bool false)) W4.heap.size (W4.heap.size + 2) qa qb 0 (j + 1) (P ++ [((tt : Int), Y)]) from ⟨cell4_set (u0 := (.slice sa sn sc)) (u1 := (.slice qa (j + 1) qc)) (u2 := (.int .i64 lf)) (u3 := (.bool false)) K8.out.2.2.1, hbF, K8.out.2.1.upd2 K8.out.2.2.2 (UpdR.set4 (c := wr.heap.size) (u0 := (.slice sa sn sc)) (u1 := (.slice qa (j + 1) qc)) (u2 := (.int .i64 lf)) (u3 := (.bool false)) (Nat.le_refl _) (Nat.lt_succ_self _))⟩)
                  clear z0 z1 z2 z3 f0 f1 f2 f3
                  refine hK' _ _ (⟨blk_below HP.out.1 hbF (blk_lt HP.out.1), blk_below HJ.out.2.1 hbF (blk_lt HJ.out.2.1), (hbF.cell (p := ⟨ab, ao + j * 3 + 1, none⟩) hwq).trans HAC.out.1, (hbF.cell (p := ⟨ab, ao + j * 3 + 2, none⟩) hwq).trans HAC.out.2⟩) ?_
                  clear hK' K'
                  go_simp
                  refine wpAnyH_from (fuel := 0) 23 1 (fun _ _ _ _ _ h => h) (by kernel_rfl) (by decide) (by kernel_rfl) (⟨blk_below HP.out.1 hbF (blk_lt HP.out.1), blk_below HJ.out.2.1 hbF (blk_lt HJ.out.2.1), (hbF.cell (p := ⟨ab, ao + j * 3 + 1, none⟩) hwq).trans HAC.out.1, (hbF.cell (p := ⟨ab, ao + j * 3 + 2, none⟩) hwq).trans HAC.out.2⟩) ?_
                  simp only [List.drop_succ_cons, List.drop_zero, List.take_succ_cons, List.take_zero]
                  refine wpHeld_cons (.int .i64 0) (by kernel_rfl) ?_ ?_
                  · intro w' s
                    try go_simp
                  refine wpHeld_nil ?_
                  go_simp
                  refine wpAnyH_done (by kernel_rfl) ?_ _
                  refine NoPanic.normal ?_
                  go_simp
                  go_wp2_with fail
                  go_meet
                  case rel => exact ⟨rfl, wr.heap.size, qa, qb, qc, Y, rfl, HYY.out.1, HYY.out.2, HF⟩
              case rest =>
                obtain ⟨rfl, bz, qa, qb, qc, Y, rfl, hY, hqc, HZ⟩ := hcut
                have z0 := blk_cell HZ.out.1 0
                have z1 := blk_cell HZ.out.1 1
                have z2 := blk_cell HZ.out.1 2
                have z3 := blk_cell HZ.out.1 3
                have hy6 := blk_below HP.out.1 HZ.out.2.1 (blk_lt HP.out.1)
                have y0 := blk_cell hy6 0
                have y1' := blk_cell hy6 1
                have y2 := blk_cell hy6 2
                have y3 := blk_cell hy6 3
                have f0 := blk_free hy6 0
                have f1 := blk_free hy6 1
                have f2 := blk_free hy6 2
                have f3 := blk_free hy6 3
                have HQ := Lib.hid (And.intro hY hqc)
                clear hY hqc
                go_upto_region 17 with fail
                have hdn : w.heap.size ≠ b6 := by have := blk_lt H4.out.2; omega
                have h5b : b5 < wr.heap.size := by have := HJ.out.2.2; omega
                have HJn := Lib.hid (show Below w.heap.size w ((((wc.setCell ⟨b6, 0, none⟩ (.slice sa sn sc)).setCell ⟨b6, 1, none⟩ (.slice qa (j + 1) qc)).setCell ⟨b6, 2, none⟩ (.int .i64 lf)).setCell ⟨b6, 3, none⟩ (.bool false)) ∧ ((((wc.setCell ⟨b6, 0, none⟩ (.slice sa sn sc)).setCell ⟨b6, 1, none⟩ (.slice qa (j + 1) qc)).setCell ⟨b6, 2, none⟩ (.int .i64 lf)).setCell ⟨b6, 3, none⟩ (.bool false)).heap[w.heap.size]? = some (.cells #[.slice sa sn sc, .slice pa 0 pc, .int .i64 lf, .bool false] 25 (0, 0)) ∧ (W4.heap.size + 2) ≤ ((((wc.setCell ⟨b6, 0, none⟩ (.slice sa sn sc)).setCell ⟨b6, 1, none⟩ (.slice qa (j + 1) qc)).setCell ⟨b6, 2, none⟩ (.int .i64 lf)).setCell ⟨b6, 3, none⟩ (.bool false)).heap.size from ⟨cell4_below (u0 := (.slice sa sn sc)) (u1 := (.slice qa (j + 1) qc)) (u2 := (.int .i64 lf)) (u3 := (.bool false)) (by have := H4.out.1.size; omega) (below_after HJ.out.1 HZ.out.2.1 HJ.out.1.size), cell4_other (u0 := (.slice sa sn sc)) (u1 := (.slice qa (j + 1) qc)) (u2 := (.int .i64 lf)) (u3 := (.bool false)) (blk_below HJ.out.2.1 HZ.out.2.1 (blk_lt HJ.out.2.1)) hdn, by have := HZ.out.2.1.size; have := HJ.out.2.2; simp only [World.size_setCell]; omega⟩)
                have HYn : Hid (YRel l lf sa sc W4.heap.size (W4.heap.size + 2) b6 sn (j + 1) ((((wc.setCell ⟨b6, 0, none⟩ (.slice sa sn sc)).setCell ⟨b6, 1, none⟩ (.slice qa (j + 1) qc)).setCell ⟨b6, 2, none⟩ (.int .i64 lf)).setCell ⟨b6, 3, none⟩ (.bool false))) := Lib.hid ⟨qa, qb, qc, _, cell4_set (u0 := (.slice sa sn sc)) (u1 := (.slice qa (j + 1) qc)) (u2 := (.int .i64 lf)) (u3 := (.bool false)) hy6, HZ.out.2.2.upd (UpdR.set4 (c := b6) (u0 := (.slice sa sn sc)) (u1 := (.slice qa (j + 1) qc)) (u2 := (.int .i64 lf)) (u3 := (.bool false)) h61 h62), HQ.out.2, by have := HP.out.2.2.2.1.snoc (Y := Y) (by rw [HRd.out.2.2]; exact HQ.out.1); rwa [← HRd.out.2.1] at this⟩
                have HXn : Hid (XRel S l lf W4.heap.size (W4.heap.size + 2) b5 sn an an E ((((wc.setCell ⟨b6, 0, none⟩ (.slice sa sn sc)).setCell ⟨b6, 1, none⟩ (.slice qa (j + 1) qc)).setCell ⟨b6, 2, none⟩ (.int .i64 lf)).setCell ⟨b6, 3, none⟩ (.bool false))) := Lib.hid ((HX.out.below HZ.out.2.1 h5b).upd (UpdR.set4 (c := b6) (u0 := (.slice sa sn sc)) (u1 := (.slice qa (j + 1) qc)) (u2 := (.int .i64 lf)) (u3 := (.bool false)) h61 h62) (cell4_keep (u0 := (.slice sa sn sc)) (u1 := (.slice qa (j + 1) qc)) (u2 := (.int .i64 lf)) (u3 := (.bool false)) h56))
                clear z0 z1 z2 z3 y0 y1' y2 y3 f0 f1 f2 f3 hdn h5b hy6 HZ
                generalize ((((wc.setCell ⟨b6, 0, none⟩ (.slice sa sn sc)).setCell ⟨b6, 1, none⟩ (.slice qa (j + 1) qc)).setCell ⟨b6, 2, none⟩ (.int .i64 lf)).setCell ⟨b6, 3, none⟩ (.bool false)) = W8 at *
                go_wp2_with fail
                go_roundw
                case rel => exact ⟨j + 1, HRd.out.1, by go_num, HJn, HYn, HXn⟩
                case measure => have := HRd.out.1; simp [intOf]; omega
            · obtain rfl : an = j := by omega
              have j1 : ¬ (an : Int) < (an : Int) := by omega
              have x0 := blk_cell HP.out.1 0
              have x1 := blk_cell HP.out.1 1
              have x2 := blk_cell HP.out.1 2
              have x3 := blk_cell HP.out.1 3
              clear hja hj
              go_wp2_with fail
              clear x0 x1 x2 x3
              by_cases hd : lf = -1 ∨ (an : Int) ≤ lf
              · obtain ⟨rfl, hok⟩ : E = 0 ∧ XOk S l lf W4.heap.size (W4.heap.size + 2) b5 sn an wr := by
                  rcases HX.out with ⟨h1, _, h3⟩ | ⟨_, h2, h3, _⟩
                  · exact ⟨h1, h3⟩
                  · omega
                obtain ⟨sx, bx, ox, cx, px, kx, Sx, hx5, hSx, -, hcx⟩ := hok
                have HXX := Lib.hid (show _ ∧ _ ∧ _ from ⟨hx5, hSx, hcx⟩)
                clear hx5 hSx hcx
                refine (sync_any S P lf false sa sb so sn sc ra rb 0 an rc wr (HA.out.1.below HJ.out.1 (Nat.le_refl _)) HP.out.2.1.s (by omega) (by omega) HP.out.2.2.1 hsz).mono ?_
                rintro e W9 ⟨hp, hb⟩
                obtain ⟨b3, cap3, hcap3, hB3, hS3, he⟩ := hp.done (runB_t HP.out.2.2.2.2 rfl) hd
                rw [show (if lf = -1 then (-1 : Int) else lf - (an : Int)) = leftA lf an from rfl] at he
                subst he
                have hy9 := blk_below HP.out.1 hb (blk_lt HP.out.1)
                have x0 := blk_cell hy9 0
                have x1 := blk_cell hy9 1
                have x2 := blk_cell hy9 2
                have x3 := blk_cell hy9 3
                have f0 := blk_free hy9 0
                have f1 := blk_free hy9 1
                have f2 := blk_free hy9 2
                have f3 := blk_free hy9 3
                have h5b : b5 < wr.heap.size := by have := HJ.out.2.2; omega
                have HB9 := Lib.hid (show _ ∧ _ ∧ _ from ⟨hb, hS3, hB3⟩)
                clear hp hb hS3 hB3
                go_upto_region 23 with fail
                have HE := Lib.hid (show Below w.heap.size w ((((W9.setCell ⟨b6, 0, none⟩ (.slice (some ⟨b3, 0, none⟩) sn cap3)).setCell ⟨b6, 1, none⟩ (.slice none 0 0)).setCell ⟨b6, 2, none⟩ (.int .i64 (leftA lf an))).setCell ⟨b6, 3, none⟩ (.bool false)) ∧ ((((W9.setCell ⟨b6, 0, none⟩ (.slice (some ⟨b3, 0, none⟩) sn cap3)).setCell ⟨b6, 1, none⟩ (.slice none 0 0)).setCell ⟨b6, 2, none⟩ (.int .i64 (leftA lf an))).setCell ⟨b6, 3, none⟩ (.bool false)).heap[b5]? = some (.cells #[.slice sx sn cx, .slice px 0 kx, .int .i64 (leftA lf an), .bool false] 25 (0, 0)) ∧ ((((W9.setCell ⟨b6, 0, none⟩ (.slice (some ⟨b3, 0, none⟩) sn cap3)).setCell ⟨b6, 1, none⟩ (.slice none 0 0)).setCell ⟨b6, 2, none⟩ (.int .i64 (leftA lf an))).setCell ⟨b6, 3, none⟩ (.bool false)).heap[b6]? = some (.cells #[.slice (some ⟨b3, 0, none⟩) sn cap3, .slice none 0 0, .int .i64 (leftA lf an), .bool false] 25 (0, 0)) ∧ Secs ((((W9.setCell ⟨b6, 0, none⟩ (.slice (some ⟨b3, 0, none⟩) sn cap3)).setCell ⟨b6, 1, none⟩ (.slice none 0 0)).setCell ⟨b6, 2, none⟩ (.int .i64 (leftA lf an))).setCell ⟨b6, 3, none⟩ (.bool false)) sx bx ox sn Sx ∧ Secs ((((W9.setCell ⟨b6, 0, none⟩ (.slice (some ⟨b3, 0, none⟩) sn cap3)).setCell ⟨b6, 1, none⟩ (.slice none 0 0)).setCell ⟨b6, 2, none⟩ (.int .i64 (leftA lf an))).setCell ⟨b6, 3, none⟩ (.bool false)) (some ⟨b3, 0, none⟩) b3 0 sn (perfK S P an) from ⟨cell4_below (u0 := (.slice (some ⟨b3, 0, none⟩) sn cap3)) (u1 := (.slice none 0 0)) (u2 := (.int .i64 (leftA lf an))) (u3 := (.bool false)) (by have := H4.out.1.size; omega) (below_after HJ.out.1 HB9.out.1 HJ.out.1.size), cell4_other (u0 := (.slice (some ⟨b3, 0, none⟩) sn cap3)) (u1 := (.slice none 0 0)) (u2 := (.int .i64 (leftA lf an))) (u3 := (.bool false)) (blk_below HXX.out.1 HB9.out.1 h5b) h56, cell4_set (u0 := (.slice (some ⟨b3, 0, none⟩) sn cap3)) (u1 := (.slice none 0 0)) (u2 := (.int .i64 (leftA lf an))) (u3 := (.bool false)) hy9, ((HXX.out.2.1.below HB9.out.1 (Nat.le_refl _)).upd (UpdR.set4 (c := b6) (u0 := (.slice (some ⟨b3, 0, none⟩) sn cap3)) (u1 := (.slice none 0 0)) (u2 := (.int .i64 (leftA lf an))) (u3 := (.bool false)) h61 h62)).s, ((show SecsF W9 W4.heap.size (W4.heap.size + 2) (some ⟨b3, 0, none⟩) b3 0 sn (perfK S P an) from secsF_perf (((HA.out.1.f HJ.out.1 H4.out.1.size))) HP.out.2.1 (Nat.le_refl _) HB9.out.1 HJ.out.2.2 HB9.out.2.2 HB9.out.2.1).upd (UpdR.set4 (c := b6) (u0 := (.slice (some ⟨b3, 0, none⟩) sn cap3)) (u1 := (.slice none 0 0)) (u2 := (.int .i64 (leftA lf an))) (u3 := (.bool false)) h61 h62)).s⟩)
                clear x0 x1 x2 x3 f0 f1 f2 f3 hy9 h5b
                generalize ((((W9.setCell ⟨b6, 0, none⟩ (.slice (some ⟨b3, 0, none⟩) sn cap3)).setCell ⟨b6, 1, none⟩ (.slice none 0 0)).setCell ⟨b6, 2, none⟩ (.int .i64 (leftA lf an))).setCell ⟨b6, 3, none⟩ (.bool false)) = W10 at *
                have x0 := blk_cell HE.out.2.1 0
                have x1 := blk_cell HE.out.2.1 1
                have x2 := blk_cell HE.out.2.1 2
                have x3 := blk_cell HE.out.2.1 3
                have y0 := blk_cell HE.out.2.2.1 0
                have y1 := blk_cell HE.out.2.2.1 1
                have y2 := blk_cell HE.out.2.2.1 2
                have y3 := blk_cell HE.out.2.2.1 3
                go_wp2_with fail
                refine (same_any Sx (perfK S P an) [] [] (leftA lf an) false sx (some ⟨b3, 0, none⟩) bx ox b3 0 sn cx cap3 px none 0 0 0 0 0 kx 0 _ HE.out.2.2.2.1 (pens_nil _ _) HE.out.2.2.2.2 (pens_nil _ _) (by omega) (by omega) (fun i hi => (HXX.out.2.2 i hi).trans (cont_perf hSl hsp HP.out.2.2.2.1 an (Nat.le_refl _) i hi).symm) (fun i hi => by omega)).mono ?_
                rintro e W11 ⟨rfl, hb11⟩
                have HFin := Lib.hid (below_after HE.out.1 hb11 HE.out.1.size)
                clear hb11 x0 x1 x2 x3 y0 y1 y2 y3
                go_wp2
                go_ret
                exact ⟨rfl, HFin.out⟩
              · have hd0 : 0 ≤ lf := by omega
                have hd1 : lf < (an : Int) := by omega
                obtain ⟨hE, hok⟩ : E = (40 : Int) ∧ XTorn S l lf W4.heap.size (W4.heap.size + 2) b5 sn wr := by
                  rcases HX.out with ⟨_, h2, _⟩ | ⟨h1, _, _, h4⟩
                  · omega
                  · exact ⟨h1, h4⟩
                subst hE
                obtain ⟨sx, bx, ox, cx, Sx, hx5, hSx, hcx⟩ := hok
                obtain ⟨m, hm⟩ : ∃ m, m = lf.toNat := ⟨_, rfl⟩
                have hma : m < an := by omega
                rw [← hm] at hcx
                have HXX := Lib.hid (show _ ∧ _ ∧ _ from ⟨hx5, hSx, hcx⟩)
                clear hx5 hSx hcx
                refine (sync_any S P lf false sa sb so sn sc ra rb 0 an rc wr (HA.out.1.below HJ.out.1 (Nat.le_refl _)) HP.out.2.1.s (by omega) (by omega) HP.out.2.2.1 hsz).mono ?_
                rintro e W9 ⟨hp, hb⟩
                obtain ⟨b3, cap3, Y3, hcap3, hB3, hYg3, hY3, hS3, rfl⟩ := hp.torn (runB_t HP.out.2.2.2.2 rfl) hd0 hd1
                rw [← hm] at hS3 hY3
                obtain ⟨e1, e2⟩ := HP.out.2.2.2.1.2 m hma
                rw [e1, Int.toNat_natCast] at hS3 hY3
                rw [e2] at hY3
                obtain ⟨U, hU⟩ : ∃ U, U = (perfK S P m).set (atA l sn m) Y3 := ⟨_, rfl⟩
                have hcU : ∀ i, i < sn → (nS U i).2.2 = tornA S l sn m i := by rw [hU]; exact torn_step ((perfK_len S P m).trans hSl) (cont_perf hSl hsp HP.out.2.2.2.1 m (by omega)) hY3
                have hSF := secsF_torn (((HA.out.1.f HJ.out.1 H4.out.1.size))) HP.out.2.1 (k := m) (by omega) hb HJ.out.2.2 hB3 hYg3 hS3
                rw [← hU] at hS3 hSF
                have HSF := Lib.hid hSF
                clear hSF
                have HCU := Lib.hid hcU
                clear hU hcU e1 e2 hY3 hm
                have hy9 := blk_below HP.out.1 hb (blk_lt HP.out.1)
                have x0 := blk_cell hy9 0
                have x1 := blk_cell hy9 1
                have x2 := blk_cell hy9 2
                have x3 := blk_cell hy9 3
                have f0 := blk_free hy9 0
                have f1 := blk_free hy9 1
                have f2 := blk_free hy9 2
                have f3 := blk_free hy9 3
                have h5b : b5 < wr.heap.size := by have := HJ.out.2.2; omega
                have HB9 := Lib.hid (show _ ∧ _ ∧ _ from ⟨hb, hS3, hB3⟩)
                clear hp hb hS3 hB3
                go_upto_region 23 with fail
                have HE := Lib.hid (show Below w.heap.size w ((((W9.setCell ⟨b6, 0, none⟩ (.slice (some ⟨b3, 0, none⟩) sn cap3)).setCell ⟨b6, 1, none⟩ (.slice none 0 0)).setCell ⟨b6, 2, none⟩ (.int .i64 0)).setCell ⟨b6, 3, none⟩ (.bool true)) ∧ ((((W9.setCell ⟨b6, 0, none⟩ (.slice (some ⟨b3, 0, none⟩) sn cap3)).setCell ⟨b6, 1, none⟩ (.slice none 0 0)).setCell ⟨b6, 2, none⟩ (.int .i64 0)).setCell ⟨b6, 3, none⟩ (.bool true)).heap[b5]? = some (.cells #[.slice sx sn cx, .slice none 0 0, .int .i64 0, .bool true] 25 (0, 0)) ∧ ((((W9.setCell ⟨b6, 0, none⟩ (.slice (some ⟨b3, 0, none⟩) sn cap3)).setCell ⟨b6, 1, none⟩ (.slice none 0 0)).setCell ⟨b6, 2, none⟩ (.int .i64 0)).setCell ⟨b6, 3, none⟩ (.bool true)).heap[b6]? = some (.cells #[.slice (some ⟨b3, 0, none⟩) sn cap3, .slice none 0 0, .int .i64 0, .bool true] 25 (0, 0)) ∧ Secs ((((W9.setCell ⟨b6, 0, none⟩ (.slice (some ⟨b3, 0, none⟩) sn cap3)).setCell ⟨b6, 1, none⟩ (.slice none 0 0)).setCell ⟨b6, 2, none⟩ (.int .i64 0)).setCell ⟨b6, 3, none⟩ (.bool true)) sx bx ox sn Sx ∧ Secs ((((W9.setCell ⟨b6, 0, none⟩ (.slice (some ⟨b3, 0, none⟩) sn cap3)).setCell ⟨b6, 1, none⟩ (.slice none 0 0)).setCell ⟨b6, 2, none⟩ (.int .i64 0)).setCell ⟨b6, 3, none⟩ (.bool true)) (some ⟨b3, 0, none⟩) b3 0 sn U from ⟨cell4_below (u0 := (.slice (some ⟨b3, 0, none⟩) sn cap3)) (u1 := (.slice none 0 0)) (u2 := (.int .i64 0)) (u3 := (.bool true)) (by have := H4.out.1.size; omega) (below_after HJ.out.1 HB9.out.1 HJ.out.1.size), cell4_other (u0 := (.slice (some ⟨b3, 0, none⟩) sn cap3)) (u1 := (.slice none 0 0)) (u2 := (.int .i64 0)) (u3 := (.bool true)) (blk_below HXX.out.1 HB9.out.1 h5b) h56, cell4_set (u0 := (.slice (some ⟨b3, 0, none⟩) sn cap3)) (u1 := (.slice none 0 0)) (u2 := (.int .i64 0)) (u3 := (.bool true)) hy9, ((HXX.out.2.1.below HB9.out.1 (Nat.le_refl _)).upd (UpdR.set4 (c := b6) (u0 := (.slice (some ⟨b3, 0, none⟩) sn cap3)) (u1 := (.slice none 0 0)) (u2 := (.int .i64 0)) (u3 := (.bool true)) h61 h62)).s, ((show SecsF W9 W4.heap.size (W4.heap.size + 2) (some ⟨b3, 0, none⟩) b3 0 sn U from HSF.out).upd (UpdR.set4 (c := b6) (u0 := (.slice (some ⟨b3, 0, none⟩) sn cap3)) (u1 := (.slice none 0 0)) (u2 := (.int .i64 0)) (u3 := (.bool true)) h61 h62)).s⟩)
                clear x0 x1 x2 x3 f0 f1 f2 f3 hy9 h5b
                generalize ((((W9.setCell ⟨b6, 0, none⟩ (.slice (some ⟨b3, 0, none⟩) sn cap3)).setCell ⟨b6, 1, none⟩ (.slice none 0 0)).setCell ⟨b6, 2, none⟩ (.int .i64 0)).setCell ⟨b6, 3, none⟩ (.bool true)) = W10 at *
                have x0 := blk_cell HE.out.2.1 0
                have x1 := blk_cell HE.out.2.1 1
                have x2 := blk_cell HE.out.2.1 2
                have x3 := blk_cell HE.out.2.1 3
                have y0 := blk_cell HE.out.2.2.1 0
                have y1 := blk_cell HE.out.2.2.1 1
                have y2 := blk_cell HE.out.2.2.1 2
                have y3 := blk_cell HE.out.2.2.1 3
                go_wp2_with fail
                refine (same_any Sx U [] [] 0 true sx (some ⟨b3, 0, none⟩) bx ox b3 0 sn cx cap3 none none 0 0 0 0 0 0 0 _ HE.out.2.2.2.1 (pens_nil _ _) HE.out.2.2.2.2 (pens_nil _ _) (by omega) (by omega) (fun i hi => (HXX.out.2.2 i hi).trans (HCU.out i hi).symm) (fun i hi => by omega)).mono ?_
                rintro e W11 ⟨rfl, hb11⟩
                have HFin := Lib.hid (below_after HE.out.1 hb11 HE.out.1.size)
                clear hb11 x0 x1 x2 x3 y0 y1 y2 y3
                go_wp2
                go_ret
                exact ⟨rfl, HFin.out⟩
end Go.Proofs.Ytbimmahlcceadaa
