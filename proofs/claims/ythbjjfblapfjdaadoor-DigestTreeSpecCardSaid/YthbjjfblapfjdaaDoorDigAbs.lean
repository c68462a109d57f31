/- (*digest.state).absorb (layer 2). -/
import Derived.Test.YthbjjfblapfjdaaDoorDigSch
namespace Go.Proofs.YthbjjfblapfjdaaDoor
open Go.ChangeShapes Go.WideShapes Go.ChangeAt Go.RowKit

/-- The sixty-four numbers of the rounds. -/
def keyL : List Int := [1116352408, 1899447441, 3049323471, 3921009573, 961987163, 1508970993, 2453635748, 2870763221, 3624381080, 310598401, 607225278, 1426881987, 1925078388, 2162078206, 2614888103, 3248222580, 3835390401, 4022224774, 264347078, 604807628, 770255983, 1249150122, 1555081692, 1996064986, 2554220882, 2821834349, 2952996808, 3210313671, 3336571891, 3584528711, 113926993, 338241895, 666307205, 773529912, 1294757372, 1396182291, 1695183700, 1986661051, 2177026350, 2456956037, 2730485921, 2820302411, 3259730800, 3345764771, 3516065817, 3600352804, 4094571909, 275423344, 430227734, 506948616, 659060556, 883997877, 958139571, 1322822218, 1537002063, 1747873779, 1955562222, 2024104815, 2227730452, 2361852424, 2428436474, 2756734187, 3204031479, 3329325298]
def kAt (t : Nat) : Int := keyL.getD t 0
/-- They lie in the program's variable. -/
def Keys (w : World) : Prop := 0 < w.heap.size ∧ ∀ t, t < 64 → w.cell? ⟨0, t, none⟩ = some (.int .u32 (kAt t))
theorem Keys.below {w w' : World} (h : Keys w) (hb : Below w.heap.size w w') : Keys w' :=
  ⟨Nat.lt_of_lt_of_le h.1 hb.size, fun i hi => (hb.cell (p := ⟨0, i, none⟩) h.1).trans (h.2 i hi)⟩
theorem wVal_size (l : List Int) : (wVal l).size = 64 := by simp [wVal]
theorem Keys.low {B : Nat} {w w' : World} (h : Keys w) (hb : Below B w w') (hB : 0 < B) : Keys w' :=
  ⟨Nat.lt_of_lt_of_le h.1 hb.size, fun i hi => (hb.cell (p := ⟨0, i, none⟩) hB).trans (h.2 i hi)⟩
theorem wVal_get (l : List Int) {k : Nat} (h : k < 64) : (wVal l)[k]? = some (.int .u32 (wAt l k)) := by simp [wVal, h]
abbrev St := Int × Int × Int × Int × Int × Int × Int × Int
def pI (e f g h k w : Int) : Int := IntKind.u32.wrap (IntKind.u32.wrap (IntKind.u32.wrap (IntKind.u32.wrap (h + bits .xor .u32 (bits .xor .u32 (ror e 6) (ror e 11)) (ror e 25)) + bits .xor .u32 (bits .and .u32 e f) (bits .and .u32 (bits .xor .u32 IntKind.u32.max e) g)) + k) + w)
def qI (a b c : Int) : Int := bits .xor .u32 (bits .xor .u32 (ror a 2) (ror a 13)) (ror a 22) + bits .xor .u32 (bits .xor .u32 (bits .and .u32 a b) (bits .and .u32 a c)) (bits .and .u32 b c)
/-- One round. -/
def stp (k w : Int) : St → St
  | (a, b, c, d, e, f, g, h) => ((pI e f g h k w + qI a b c) % 4294967296, a, b, c, (d + pI e f g h k w) % 4294967296, e, f, g)
def enc8 (s : St) : List Int := [s.1, s.2.1, s.2.2.1, s.2.2.2.1, s.2.2.2.2.1, s.2.2.2.2.2.1, s.2.2.2.2.2.2.1, s.2.2.2.2.2.2.2]
/-- Two states, added. -/
def add8 (s v : St) : St := ((s.1 + v.1) % 4294967296, (s.2.1 + v.2.1) % 4294967296, (s.2.2.1 + v.2.2.1) % 4294967296, (s.2.2.2.1 + v.2.2.2.1) % 4294967296, (s.2.2.2.2.1 + v.2.2.2.2.1) % 4294967296, (s.2.2.2.2.2.1 + v.2.2.2.2.2.1) % 4294967296, (s.2.2.2.2.2.2.1 + v.2.2.2.2.2.2.1) % 4294967296, (s.2.2.2.2.2.2.2 + v.2.2.2.2.2.2.2) % 4294967296)
def stV (s : St) : Array Value := #[.int .u32 s.1, .int .u32 s.2.1, .int .u32 s.2.2.1, .int .u32 s.2.2.2.1, .int .u32 s.2.2.2.2.1, .int .u32 s.2.2.2.2.2.1, .int .u32 s.2.2.2.2.2.2.1, .int .u32 s.2.2.2.2.2.2.2]
theorem box8_set {w : World} {b : Nat} {x0 x1 x2 x3 x4 x5 x6 x7 u0 u1 u2 u3 u4 u5 u6 u7 : Value} {t : TypeId} (h : w.heap[b]? = some (.cells #[x0, x1, x2, x3, x4, x5, x6, x7] t (0, 0))) :
    ((((((((w.setCell ⟨b, 0, none⟩ u0).setCell ⟨b, 1, none⟩ u1).setCell ⟨b, 2, none⟩ u2).setCell ⟨b, 3, none⟩ u3).setCell ⟨b, 4, none⟩ u4).setCell ⟨b, 5, none⟩ u5).setCell ⟨b, 6, none⟩ u6).setCell ⟨b, 7, none⟩ u7).heap[b]? = some (.cells #[u0, u1, u2, u3, u4, u5, u6, u7] t (0, 0)) :=
  by
  have h7 := cells_setU (i := 7) (v := u7) (cells_setU (i := 6) (v := u6) (cells_setU (i := 5) (v := u5) (cells_setU (i := 4) (v := u4) (cells_setU (i := 3) (v := u3) (cells_setU (i := 2) (v := u2) (cells_setU (i := 1) (v := u1) (cells_setU (i := 0) (v := u0) h)))))))
  rw [h7]
  simp
theorem below8 {B b : Nat} {a w : World} {u0 u1 u2 u3 u4 u5 u6 u7 : Value} (hb : B ≤ b) (h : Below B a w) :
    Below B a ((((((((w.setCell ⟨b, 0, none⟩ u0).setCell ⟨b, 1, none⟩ u1).setCell ⟨b, 2, none⟩ u2).setCell ⟨b, 3, none⟩ u3).setCell ⟨b, 4, none⟩ u4).setCell ⟨b, 5, none⟩ u5).setCell ⟨b, 6, none⟩ u6).setCell ⟨b, 7, none⟩ u7) :=
  (((((((h.setCell (p := ⟨b, 0, none⟩) hb _).setCell (p := ⟨b, 1, none⟩) hb _).setCell (p := ⟨b, 2, none⟩) hb _).setCell (p := ⟨b, 3, none⟩) hb _).setCell (p := ⟨b, 4, none⟩) hb _).setCell (p := ⟨b, 5, none⟩) hb _).setCell (p := ⟨b, 6, none⟩) hb _).setCell (p := ⟨b, 7, none⟩) hb _
/-- One block turned, and new ones laid. -/
structure Upd1 (h : Nat) (w w' : World) : Prop where
  size : w.heap.size ≤ w'.heap.size
  far : ∀ q, q < w.heap.size → q ≠ h → w'.heap[q]? = w.heap[q]?
  low : ∀ B, B ≤ h → B ≤ w.heap.size → Below B w w'
theorem Upd1.of_below {h : Nat} {w w' : World} (hb : Below w.heap.size w w') : Upd1 h w w' := ⟨hb.size, fun q hq _ => hb.block q hq, fun _ _ h2 => hb.mono h2⟩
theorem Upd1.set {h i : Nat} {w w' : World} {v : Value} (u : Upd1 h w w') : Upd1 h w (w'.setCell ⟨h, i, none⟩ v) :=
  ⟨by rw [World.size_setCell]; exact u.size, fun q hq hn => (Below.heap_setCell w' ⟨h, i, none⟩ v q hn).trans (u.far q hq hn), fun B h1 h2 => (u.low B h1 h2).setCell (p := ⟨h, i, none⟩) h1 v⟩
theorem Upd1.drew {h : Nat} {w w' : World} (u : Upd1 h w w') : Upd1 h w w'.drew := ⟨u.size, u.far, fun B h1 h2 => (u.low B h1 h2).drew⟩
theorem enc8_get (s : St) (i : Nat) (hi : i < 8) : (stV s)[i]? = some (.int .u32 ((enc8 s).getD i 0)) := by
  rcases (show i = 0 ∨ i = 1 ∨ i = 2 ∨ i = 3 ∨ i = 4 ∨ i = 5 ∨ i = 6 ∨ i = 7 by omega) with rfl | rfl | rfl | rfl | rfl | rfl | rfl | rfl <;> rfl
theorem enc8_add (s v : St) (i : Nat) (hi : i < 8) : (enc8 (add8 s v)).getD i 0 = ((enc8 s).getD i 0 + (enc8 v).getD i 0) % 4294967296 := by
  rcases (show i = 0 ∨ i = 1 ∨ i = 2 ∨ i = 3 ∨ i = 4 ∨ i = 5 ∨ i = 6 ∨ i = 7 by omega) with rfl | rfl | rfl | rfl | rfl | rfl | rfl | rfl <;> rfl
/-- The state while it is added to. -/
def Mid (X : Array Value) (s v : St) (k : Nat) : Prop := X.size = 8 ∧ ∀ i, i < 8 → X[i]? = some (.int .u32 (if i < k then (enc8 (add8 s v)).getD i 0 else (enc8 s).getD i 0))
theorem Mid.all {X : Array Value} {s v : St} (h : Mid X s v 8) : X = stV (add8 s v) := by
  apply Array.ext_getElem?
  intro i
  by_cases hi : i < 8
  · rw [h.2 i hi, if_pos hi, enc8_get _ _ hi]
  · rw [Array.getElem?_eq_none (by rw [h.1]; omega), Array.getElem?_eq_none (by show 8 ≤ i; omega)]
theorem Mid.set {X : Array Value} {s v : St} {k : Nat} (h : Mid X s v k) (hk : k < 8) : Mid (X.setIfInBounds k (.int .u32 (((enc8 s).getD k 0 + (enc8 v).getD k 0) % 4294967296))) s v (k + 1) := by
  refine ⟨by simp [h.1], fun i hi => ?_⟩
  by_cases e : k = i
  · subst e
    rw [Array.getElem?_setIfInBounds_self, if_pos (by rw [h.1]; exact hi), if_pos (by omega), enc8_add s v k hk]
  · rw [Array.getElem?_setIfInBounds_ne e, h.2 i hi]
    by_cases c : i < k
    · rw [if_pos c, if_pos (by omega)]
    · rw [if_neg c, if_neg (by omega)]
/-- The state behind k rounds. -/
def stK (l : List Int) (s : St) : Nat → St
  | 0 => s
  | k + 1 => stp (kAt k) (wAt l k) (stK l s k)
theorem stK_succ (l : List Int) (s : St) (k : Nat) : stK l s (k + 1) = stp (kAt k) (wAt l k) (stK l s k) := rfl
def Held (p : Prop) : Prop := p
theorem held {P : Program} {w : World} {ops : Array Oper} {rest : List Oper} {o : Oper} {a : Act} {Q : Exit → Act → World → Prop} (h : Held (wpList P ops Q (o :: rest) a w)) : wpList P ops Q (o :: rest) a w := h

set_option maxRecDepth 100000 in
set_option maxHeartbeats 4000000 in
theorem abs_raw (h : Nat) (b off cap : Nat) (l : List Int) (s0 s1 s2 s3 s4 s5 s6 s7 : Int) (w : World) (hkeys : Keys w) (hb : Blk w b off l) (hh : w.heap[h]? = some (.cells #[.int .u32 s0, .int .u32 s1, .int .u32 s2, .int .u32 s3, .int .u32 s4, .int .u32 s5, .int .u32 s6, .int .u32 s7] 52 (0, 0))) :
    Calls Tryd.prog 27 #[.pointer (some ⟨h, 0, none⟩), .slice (some ⟨b, off, none⟩) 64 cap] w fun e w' => e = .returned (.tuple #[]) ∧ w'.heap[h]? = some (.cells (stV (add8 (s0, s1, s2, s3, s4, s5, s6, s7) (stK l (s0, s1, s2, s3, s4, s5, s6, s7) 64))) 52 (0, 0)) ∧ Upd1 h w w' := by
  have HB := Lib.hid (show _ ∧ _ ∧ _ from ⟨hb, hh, hkeys⟩)
  clear hb hh hkeys
  go_enter Tryd.func27, Tryd.ntmps27
  go_wp2_with (first | (go_at_call 43; refine (sch_any b off cap l _ HB.out.1).mono ?_; rintro e w1 ⟨rfl, hB1⟩) | (with_reducible refine held (o := ⟨none, _, _, _, _, _⟩) ?_))
  unfold Held
  refine wpList_store_row rfl _ (.tmp 4) (.tmp 17) rfl w1.heap.size (wVal l) rfl rfl 63 _ (blk_new _ _) (by rw [wVal_size]; kernel_rfl) (by rw [wVal_size]; rfl) (wVal_one l) ?_
  rw [World.setRow_alloc_new]
  have hh0 := blk_below HB.out.2.1 hB1 (Array.getElem?_eq_some_iff.1 HB.out.2.1).1
  have hh1 := blk_alloc hh0 (.cells (wVal l) 63)
  have c0 := blk_cell hh1 0; have c1 := blk_cell hh1 1; have c2 := blk_cell hh1 2; have c3 := blk_cell hh1 3; have c4 := blk_cell hh1 4; have c5 := blk_cell hh1 5; have c6 := blk_cell hh1 6; have c7 := blk_cell hh1 7
  simp at c0 c1 c2 c3 c4 c5 c6 c7
  have hw0 := blk_new w1 (.cells (wVal l) 63)
  have hB2 := hB1.alloc hB1.size (.cells (wVal l) 63)
  obtain ⟨W, hW⟩ : ∃ W, W = w1.alloc (.cells (wVal l) 63) := ⟨_, rfl⟩
  rw [← hW] at hh1 c0 c1 c2 c3 c4 c5 c6 c7 hw0 hB2 ⊢
  have hgr := (Array.getElem?_eq_some_iff.1 hh1).1
  have hwg := (Array.getElem?_eq_some_iff.1 hw0).1
  have hne : h ≠ w1.heap.size := by have := (Array.getElem?_eq_some_iff.1 hh0).1; omega
  have HW := Lib.hid (show _ ∧ _ ∧ _ from ⟨hh1, hw0, hB2⟩)
  clear hh0 hh1 hw0 hB1 hB2 hW
  generalize w1.heap.size = wb at *
  obtain ⟨vb, hvb⟩ : ∃ vb, vb = W.heap.size := ⟨_, rfl⟩
  have hvn := blk_new W (.cells #[.int .u32 s0, .int .u32 s1, .int .u32 s2, .int .u32 s3, .int .u32 s4, .int .u32 s5, .int .u32 s6, .int .u32 s7] 52)
  have HV := Lib.hid (show _ ∧ _ from ⟨hvn, HW.out.2.2.size⟩)
  clear hvn
  go_wp2_with fail
  clear c0 c1 c2 c3 c4 c5 c6 c7
  rw [← hvb] at HV hgr hwg ⊢
  have HVB := Lib.hid hvb
  clear hvb
  go_loopw [21] (fun i wr => ∃ (k : Nat) (v0 v1 v2 v3 v4 v5 v6 v7 : Int), k ≤ 64 ∧ i = .int .i64 k ∧ wr.heap[vb]? = some (.cells #[.int .u32 v0, .int .u32 v1, .int .u32 v2, .int .u32 v3, .int .u32 v4, .int .u32 v5, .int .u32 v6, .int .u32 v7] 52 (0, 0)) ∧ stK l (s0, s1, s2, s3, s4, s5, s6, s7) k = (v0, v1, v2, v3, v4, v5, v6, v7) ∧ Below vb W wr) (fun i _ => 64 - (intOf i).toNat)
  case atStart => exact ⟨0, s0, s1, s2, s3, s4, s5, s6, s7, by omega, rfl, HV.out.1, rfl, (Below.refl _ _).alloc (by rw [HVB.out]; exact Nat.le_refl _) _⟩
  case round =>
    obtain ⟨k, v0, v1, v2, v3, v4, v5, v6, v7, hk, rfl, hX, hS, hB⟩ := hrel
    by_cases hlt : k < 64
    case neg =>
      have ek : k = 64 := by omega
      have nk : ¬ (k : Int) < 64 := by omega
      have hS64 : stK l (s0, s1, s2, s3, s4, s5, s6, s7) 64 = (v0, v1, v2, v3, v4, v5, v6, v7) := by rw [← ek]; exact hS
      have hhr := blk_below HW.out.1 hB hgr
      have hup : Upd1 h w wr := Upd1.of_below (HW.out.2.2.trans (hB.mono (by have := HW.out.2.2.size; have := HVB.out; omega)))
      have hvh : vb ≠ h := by omega
      have HX := Lib.hid (show _ ∧ _ ∧ _ ∧ _ from ⟨hX, hS64, hhr, hup⟩)
      clear hX hS hB hS64 hhr hup ek hlt hk
      generalize wr = W0 at *
      go_wp2
      go_loopw [99] (fun i wr => ∃ (k : Nat) (X : Array Value), k ≤ 8 ∧ i = .int .i64 k ∧ wr.heap[h]? = some (.cells X 52 (0, 0)) ∧ Mid X (s0, s1, s2, s3, s4, s5, s6, s7) (v0, v1, v2, v3, v4, v5, v6, v7) k ∧ wr.heap[vb]? = some (.cells (stV (v0, v1, v2, v3, v4, v5, v6, v7)) 52 (0, 0)) ∧ Upd1 h w wr) (fun i _ => 8 - (intOf i).toNat)
      case atStart => exact ⟨0, _, by omega, rfl, HX.out.2.2.1, ⟨rfl, fun i hi => by rw [if_neg (by omega)]; exact enc8_get (s0, s1, s2, s3, s4, s5, s6, s7) i hi⟩, HX.out.1, HX.out.2.2.2⟩
      case round =>
        obtain ⟨k, X, hk, rfl, hX, hM, hV, hU⟩ := hrel
        by_cases hlt : k < 8
        case neg =>
          obtain rfl : k = 8 := by omega
          have HZ := Lib.hid (show _ ∧ _ ∧ _ from ⟨hX, hM.all, hU⟩)
          clear hX hM hV hU
          go_wp2
          exact bodyPost_end (v := .tuple #[]) (by simp [results, Tryd.results27, go_sem]) rfl ⟨rfl, by rw [HX.out.2.1, ← HZ.out.2.1]; exact HZ.out.1, HZ.out.2.2⟩
        have i1 : (k : Int) < 8 := by omega
        have uk : IntKind.i64.wrap ((k : Int) + 1) = (k : Int) + 1 := wrap_id (by omega)
        have ch := (blk_cell hX k).trans (hM.2 k hlt)
        rw [if_neg (by omega)] at ch
        have cv := (blk_cell hV k).trans (enc8_get _ k hlt)
        have fh := blk_free hX k
        have hhr := (Array.getElem?_eq_some_iff.1 hX).1
        have hvr := (Array.getElem?_eq_some_iff.1 hV).1
        have hM2 := hM.set hlt
        generalize (enc8 (s0, s1, s2, s3, s4, s5, s6, s7)).getD k 0 = x at *
        generalize (enc8 (v0, v1, v2, v3, v4, v5, v6, v7)).getD k 0 = y at *
        have HZ := Lib.hid (show _ ∧ _ ∧ _ ∧ _ from ⟨hX, hM2, hV, hU⟩)
        clear hX hM hV hU hM2
        go_wp2_with fail
        go_still_tail 10, (by kernel_rfl)
        repeat still_step
        go_wp2
        go_roundw
        case rel => exact ⟨k + 1, _, by omega, by go_num, cells_setU HZ.out.1, HZ.out.2.1, (Below.heap_setCell _ ⟨h, k, none⟩ _ vb hvh).trans HZ.out.2.2.1, HZ.out.2.2.2.drew.set⟩
        case measure => simp [intOf]; omega
    have i1 : (k : Int) < 64 := by omega
    have uk : IntKind.i64.wrap ((k : Int) + 1) = (k : Int) + 1 := wrap_id (by omega)
    have ck := ((HB.out.2.2.below HW.out.2.2).low hB (by omega)).2 k hlt
    have hk0 : 0 < wr.heap.size := by have := hB.size; have := HVB.out; omega
    have cw := (blk_cell (blk_below HW.out.2.1 hB hwg) k).trans (wVal_get l hlt)
    have hwr : wb < wr.heap.size := Nat.lt_of_lt_of_le hwg (by have := hB.size; have := HVB.out; omega)
    have hvr := (Array.getElem?_eq_some_iff.1 hX).1
    have c0 := blk_cell hX 0; have c1 := blk_cell hX 1; have c2 := blk_cell hX 2; have c3 := blk_cell hX 3; have c4 := blk_cell hX 4; have c5 := blk_cell hX 5; have c6 := blk_cell hX 6; have c7 := blk_cell hX 7
    simp at c0 c1 c2 c3 c4 c5 c6 c7
    have fv := fun j => blk_free hX j
    have hS1 := stK_succ l (s0, s1, s2, s3, s4, s5, s6, s7) k
    rw [hS] at hS1
    have HX := Lib.hid (show _ ∧ _ ∧ _ ∧ _ from ⟨hX, hS, hB, hS1⟩)
    clear hX hS hB hS1
    generalize wAt l k = wk at *
    generalize kAt k = kk at *
    go_wp2_with fail
    go_quiet (fail)
    have HX2 := Lib.hid (show (wr.drewN nq).heap[vb]? = some (.cells #[.int .u32 v0, .int .u32 v1, .int .u32 v2, .int .u32 v3, .int .u32 v4, .int .u32 v5, .int .u32 v6, .int .u32 v7] 52 (0, 0)) ∧ Below vb W (wr.drewN nq) from ⟨HX.out.1, below_drewN HX.out.2.2.1 _⟩)
    replace ck : (wr.drewN nq).cell? ⟨0, k, none⟩ = some (.int .u32 kk) := ck
    replace cw : (wr.drewN nq).cell? ⟨wb, k, none⟩ = some (.int .u32 wk) := cw
    replace hk0 : 0 < (wr.drewN nq).heap.size := hk0
    replace hwr : wb < (wr.drewN nq).heap.size := hwr
    replace hvr : vb < (wr.drewN nq).heap.size := hvr
    generalize wr.drewN nq = W1 at *
    clear c0 c1 c2 c3 c4 c5 c6 c7 fv
    have c3 := blk_cell HX2.out.1 3; have c7 := blk_cell HX2.out.1 7
    simp at c3 c7
    go_wp2_with fail
    go_still_tail 28, (by kernel_rfl)
    repeat still_step
    still_call (ror_any v4 6 _ (by omega) (by omega))
    repeat still_step
    still_call (ror_any v4 11 _ (by omega) (by omega))
    repeat still_step
    still_call (ror_any v4 25 _ (by omega) (by omega))
    repeat still_step
    refine wpStill_nil ?_
    go_upto_region 7 with fail
    obtain ⟨p, hp⟩ : ∃ p, p = IntKind.u32.wrap (IntKind.u32.wrap (IntKind.u32.wrap (IntKind.u32.wrap (v7 + bits .xor .u32 (bits .xor .u32 (ror v4 6) (ror v4 11)) (ror v4 25)) + bits .xor .u32 (bits .and .u32 v4 v5) (bits .and .u32 (bits .xor .u32 (if IntKind.u32.signed = true then -1 else IntKind.u32.max) v4) v6)) + kk) + wk) := ⟨_, rfl⟩
    rw [← hp]
    have HP := Lib.hid (show p = pI v4 v5 v6 v7 kk wk from hp)
    clear hp ck cw
    obtain ⟨W2, hW2⟩ : ∃ W2, W2 = W1.drew := ⟨_, rfl⟩
    rw [show ({ heap := W1.heap, tape := W1.tape, drawn := W1.drawn + 1, os := W1.os, output := W1.output } : World) = W2 from hW2.symm]
    have HX3 := Lib.hid (show W2.heap[vb]? = some (.cells #[.int .u32 v0, .int .u32 v1, .int .u32 v2, .int .u32 v3, .int .u32 v4, .int .u32 v5, .int .u32 v6, .int .u32 v7] 52 (0, 0)) ∧ Below vb W W2 from by rw [hW2]; exact ⟨HX2.out.1, HX2.out.2.drew⟩)
    replace hvr : vb < W2.heap.size := by rw [hW2]; exact hvr
    clear hW2
    go_upto_region 8 with (go_at_call 44; first | (refine (ror_any v0 2 _ (by omega) (by omega)).mono ?_; rintro e w' ⟨rfl, rfl⟩) | (refine (ror_any v0 13 _ (by omega) (by omega)).mono ?_; rintro e w' ⟨rfl, rfl⟩) | (refine (ror_any v0 22 _ (by omega) (by omega)).mono ?_; rintro e w' ⟨rfl, rfl⟩))
    clear c3 c7
    have c0 := blk_cell HX3.out.1 0; have c1 := blk_cell HX3.out.1 1; have c2 := blk_cell HX3.out.1 2; have c3 := blk_cell HX3.out.1 3; have c4 := blk_cell HX3.out.1 4; have c5 := blk_cell HX3.out.1 5; have c6 := blk_cell HX3.out.1 6; have c7 := blk_cell HX3.out.1 7
    simp at c0 c1 c2 c3 c4 c5 c6 c7
    have fv := fun j => blk_free HX3.out.1 j
    go_wp2
    go_roundw
    case rel => exact ⟨k + 1, _, _, _, _, _, _, _, _, by omega, by go_num, box8_set HX3.out.1, by rw [HX.out.2.2.2]; unfold stp; dsimp only; rw [← HP.out]; rfl, below8 (Nat.le_refl _) HX3.out.2⟩
    case measure => simp [intOf]; omega
end Go.Proofs.YthbjjfblapfjdaaDoor
