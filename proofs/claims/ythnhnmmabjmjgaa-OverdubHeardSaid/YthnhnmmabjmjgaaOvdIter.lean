/- The iterator over the parts that were heard (layer 44). -/
import Derived.Test.YthnhnmmabjmjgaaOvdA
import Derived.Test.YthnhnmmabjmjgaaSeq
import Derived.Test.YthnhnmmabjmjgaaRound
import Derived.Laws.EntriesVeiled
import Derived.Sort.CutIn
import Derived.Deep.CutRange
namespace Go.Proofs.Ythnhnmmabjmjgaa
open Go.ChangeShapes Go.WideShapes Go.ChangeAt Go.RowKit Go.Shelf

attribute [local go_sem] Oper.semAt_some

/-- Cells that are not the caller's own lie as they lay: by their place and what they hold. -/
structure KpO (own : Nat → Obj → Prop) (W W' : World) : Prop where
  size : W.heap.size ≤ W'.heap.size
  same : ∀ (k : Nat) (o : Obj), W.heap[k]? = some o → o.isCells = true → ¬ own k o → W'.heap[k]? = some o
theorem KpO.refl (own : Nat → Obj → Prop) (W : World) : KpO own W W := ⟨Nat.le_refl _, fun _ _ h _ _ => h⟩
theorem kpO_t {own : Nat → Obj → Prop} : ∀ {A B C : World}, KpO own A B → KpO own B C → KpO own A C := fun h k =>
  ⟨Nat.le_trans h.size k.size, fun i o hi ho hn => k.same i o (h.same i o hi ho hn) ho hn⟩
theorem kpO_b {own : Nat → Obj → Prop} {B : Nat} : ∀ (W : World) (l : Nat) (o o' : Obj), B ≤ l → W.heap[l]? = some o → o.isCells = false → o.isWalk = false → KpO own W (W.putObj l o') := fun W l o o' _ hl ho _ =>
  ⟨by simp, fun k x hk hx _ => by
    by_cases e : k = l
    · subst e; rw [hl] at hk; cases hk; rw [ho] at hx; cases hx
    · exact (World.putObj_heap_other e).trans hk⟩
theorem KpO.alloc (own : Nat → Obj → Prop) (W : World) (o : Obj) : KpO own W (W.alloc o) :=
  ⟨by simp, fun k _ hk _ _ => (Below.heap_alloc W o k (Array.getElem?_eq_some_iff.1 hk).1).trans hk⟩
theorem KpO.below (own : Nat → Obj → Prop) {W W' : World} (h : Below W.heap.size W W') : KpO own W W' :=
  ⟨h.size, fun k _ hk _ _ => (h.block k (Array.getElem?_eq_some_iff.1 hk).1).trans hk⟩
theorem KpO.cell {own : Nat → Obj → Prop} {W W' : World} (h : KpO own W W') {b o : Nat} {v : Value} (hc : W.cell? ⟨b, o, none⟩ = some v) (hn : ∀ ob, ¬ own b ob) : W'.cell? ⟨b, o, none⟩ = some v := by
  have hlt := World.block_lt_of_cell? W _ hc
  have e : W.heap[b]? = some W.heap[b] := Array.getElem?_eq_getElem hlt
  have hce : W.heap[b].isCells = true := by
    simp only [World.cell?, e] at hc
    generalize W.heap[b] = ob at *
    cases ob <;> first | rfl | (simp at hc)
  exact (World.cell?_of_block (a := ⟨b, o, none⟩) ((h.same b _ e hce (hn _)).trans e.symm)).trans hc

/-- The part of a take that a span makes heard. -/
def ruF (first : Int) (s : Ht) : Int := max 0 (s.1 - first)
def ruT (first n : Int) (s : Ht) : Int := min n (s.1 + s.2.1 - first)
def runH (first n : Int) (s : Ht) : Option Dt := if s.2.2.2.1 = true ∧ s.2.2.2.2 = true ∧ ruF first s < ruT first n s then some (ruF first s, ruT first n s - ruF first s, s.2.2.1 + first + ruF first s - s.1, 0) else none
def runTo (l : List Ht) (first n : Int) (k : Nat) : List Dt := (l.take k).filterMap (runH first n)
def runsL (l : List Ht) (first n : Int) : List Dt := l.filterMap (runH first n)
theorem runTo_all (l : List Ht) (first n : Int) : runTo l first n l.length = runsL l first n := by unfold runTo runsL; rw [List.take_length]
theorem nthH_get {l : List Ht} {k : Nat} (h : k < l.length) : nthH l k = l[k] := by unfold nthH; simp [List.getD_eq_getElem?_getD, h]
theorem runTo_succ {l : List Ht} {first n : Int} {k : Nat} (h : k < l.length) : runTo l first n (k + 1) = runTo l first n k ++ (runH first n (nthH l k)).toList := by
  unfold runTo
  rw [List.take_add_one, List.getElem?_eq_getElem h, List.filterMap_append, nthH_get h]
  simp [List.filterMap_cons]
  cases runH first n l[k] <;> rfl
theorem runTo_skip {l : List Ht} {first n : Int} {k : Nat} (h : k < l.length) (h2 : runH first n (nthH l k) = none) : runTo l first n (k + 1) = runTo l first n k := by rw [runTo_succ h, h2]; simp
theorem runTo_more {l : List Ht} {first n : Int} {k : Nat} {r : Dt} (h : k < l.length) (h2 : runH first n (nthH l k) = some r) : runTo l first n (k + 1) = runTo l first n k ++ [r] := by rw [runTo_succ h, h2]; rfl
theorem runTo_len (l : List Ht) (first n : Int) (k : Nat) : (runTo l first n k).length ≤ k := by
  unfold runTo
  have := List.length_filterMap_le (runH first n) (l.take k)
  simp at this ⊢; omega
theorem runTo_none {l : List Ht} {first n : Int} {k m : Nat} (hk : k ≤ m) (hm : m ≤ l.length) (h : ∀ j, k ≤ j → j < m → runH first n (nthH l j) = none) : runTo l first n m = runTo l first n k := by
  induction m with
  | zero => rw [show k = 0 by omega]
  | succ m ih =>
    by_cases e : k = m + 1
    · rw [e]
    · rw [runTo_skip (by omega) (h m (by omega) (by omega)), ih (by omega) (by omega) fun j a b => h j a (by omega)]
theorem ordH_step {l : List Ht} {k : Nat} (h : OrdTo l l.length) {j : Nat} (hjk : j < k) (hk : k < l.length) : endH l (j + 1) ≤ (nthH l k).1 := by
  induction k with
  | zero => omega
  | succ k ih =>
    have a := (h (k + 1) hk).1.1
    have b := h k (by omega)
    by_cases e : j = k
    · subst e; exact a
    · have c := ih (by omega) (by omega)
      have d : endH l (k + 1) = (nthH l k).1 + (nthH l k).2.1 := rfl
      have := b.2.2.1
      omega
theorem ordH_mono {l : List Ht} {j k : Nat} (h : OrdTo l l.length) (hjk : j ≤ k) (hk : k < l.length) : (nthH l j).1 ≤ (nthH l k).1 := by
  by_cases e : j = k
  · subst e; exact Int.le_refl _
  · have a := ordH_step h (j := j) (k := k) (by omega) hk
    have b := (h j (by omega)).2.2.1
    have d : endH l (j + 1) = (nthH l j).1 + (nthH l j).2.1 := rfl
    omega
theorem ordH_ends {l : List Ht} {j k : Nat} (h : OrdTo l l.length) (hjk : j < k) (hk : k < l.length) : endH l (j + 1) < endH l (k + 1) := by
  have a := ordH_step h hjk hk
  have b := (h k hk).2.2.1
  have d : endH l (k + 1) = (nthH l k).1 + (nthH l k).2.1 := rfl
  omega
theorem runH_before {first n : Int} {s : Ht} (h : s.1 + s.2.1 ≤ first) : runH first n s = none := if_neg fun g => by have := g.2.2; unfold ruF ruT at this; omega
theorem runH_behind {first n : Int} {s : Ht} (h : n ≤ ruF first s) : runH first n s = none := if_neg fun g => by have := g.2.2; unfold ruF ruT at *; omega
theorem ruF_mono {first : Int} {s t : Ht} (h : s.1 ≤ t.1) : ruF first s ≤ ruF first t := by unfold ruF; omega

set_option maxHeartbeats 4000000 in
theorem runs2_any (Bm Bp b off len cap : Nat) (l : List Ht) (t : Nat) (at' : Int) (w : World) (ht : t < len) (hok : OrdTo l l.length) (hM : Hs w (some ⟨b, off, none⟩) len b off l)
    (k1 : w.heap[Bm]? = some (.cells #[.slice (some ⟨b, off, none⟩) len cap] 22 (0, 0))) (k2 : w.heap[Bp]? = some (.cells #[.int .i64 at'] 3 (0, 0))) :
    Calls Try.prog 38 #[.int .i64 t, .pointer (some ⟨Bm, 0, none⟩), .pointer (some ⟨Bp, 0, none⟩)] w fun e w' => e = .returned (.bool (decide (at' < endH l (t + 1)))) ∧ Below w.heap.size w w' := by
  have c1 := cell_regrown (blk_cell k1 0); have c2 := cell_regrown (blk_cell k2 0)
  simp at c1 c2
  have hx := hok t (by rw [hM.1]; exact ht)
  have hen : endH l (t + 1) = (nthH l t).1 + (nthH l t).2.1 := rfl
  obtain ⟨c0, c3, _, _, _⟩ := hM.2.2 t ht
  replace c0 := cell_regrown c0
  replace c3 := cell_regrown c3
  have i2 : (t : Int) < (len : Int) := by omega
  have hin := endH_in (l := l) (k := t) fun i hi => hok i (by have := hM.1; omega)
  rw [hen]
  unfold OkH at hx
  generalize nthH l t = x at *
  obtain ⟨x0, x1, x2, x3, x4⟩ := x
  dsimp only at *
  have hw : IntKind.i64.wrap (x0 + x1) = x0 + x1 := by rw [IntKind.wrap_i64]; omega
  clear hM k1 k2 hx hin hen hok
  go_enter Try.func38, Try.ntmps38
  go_upto_region 1 with fail
  refine wp_region_quiet_below (by kernel_rfl) (by kernel_rfl) ?_
  repeat (go_big_quiet_step ((fail)))
  refine wpQuiet_nil ?_
  intro Wq hb'
  have hb := of_regrown hb'
  clear hb'
  go_wp2
  go_ret
  exact ⟨by first | rfl | simp, hb⟩

set_option maxHeartbeats 4000000 in
theorem hsearch_any (Bm Bp b off len cap : Nat) (l : List Ht) (at' : Int) (w : World) (hch : OrdS l) (a : Option Addr) (hM : Hs w a len b off l)
    (k1 : w.heap[Bm]? = some (.cells #[.slice a len cap] 22 (0, 0))) (k2 : w.heap[Bp]? = some (.cells #[.int .i64 at'] 3 (0, 0))) :
    Calls Try.prog 37 #[.int .i64 len, .func (.func 38) #[] #[.pointer (some ⟨Bm, 0, none⟩), .pointer (some ⟨Bp, 0, none⟩)]] w fun e w' => ∃ k : Nat, k ≤ len ∧ (∀ j, j < k → endH l (j + 1) ≤ at') ∧ (∀ j, k ≤ j → j < len → at' < endH l (j + 1)) ∧ e = .returned (.int .i64 k) ∧ Below w.heap.size w w' := by
  have hlen : len ≤ 65536 := by rw [← hM.1]; exact hch.1
  have HH := Lib.hid (show _ ∧ _ ∧ _ ∧ _ from ⟨hch, hM, k1, k2⟩)
  clear hch hM k1 k2
  go_enter Try.func37, Try.ntmps37
  go_wp2
  go_loopw [5, 6] (fun i j wr => ∃ p q : Nat, p ≤ q ∧ q ≤ len ∧ i = .int .i64 p ∧ j = .int .i64 q ∧ (∀ j, j < p → endH l (j + 1) ≤ at') ∧ (∀ j, q ≤ j → j < len → at' < endH l (j + 1)) ∧ Below w.heap.size w wr) (fun i j _ => (intOf j).toNat - (intOf i).toNat)
  case atStart => exact ⟨0, len, by omega, by omega, rfl, rfl, fun j h => by omega, fun j h h' => by omega, Below.refl _ _⟩
  case round =>
    obtain ⟨p, q, hpq, hq, rfl, rfl, hp1, hq1, hB⟩ := hrel
    have HF := Lib.hid (show _ ∧ _ from ⟨hp1, hq1⟩)
    clear hp1 hq1
    by_cases hlt : p < q
    · go_wp2_with fail
      obtain ⟨h, hh⟩ : ∃ h : Nat, h = (p + q) / 2 := ⟨_, rfl⟩
      have e : ((p : Int) + (q : Int)) / 2 = (h : Int) := by omega
      have h1 : p ≤ h := by omega
      have h2 : h < q := by omega
      rw [e]
      clear e hh
      obtain ⟨ra, _⟩ := HH.out.2.1.2.1 (by omega)
      refine (runs2_any Bm Bp b off len cap l h at' wr (by omega) HH.out.1.2 (by have := HH.out.2.1.grown hB; rw [ra] at this; exact this) (by have := blk_below HH.out.2.2.1 hB (Array.getElem?_eq_some_iff.1 HH.out.2.2.1).1; rw [ra] at this; exact this) (blk_below HH.out.2.2.2 hB (Array.getElem?_eq_some_iff.1 HH.out.2.2.2).1)).mono ?_
      rintro e w4 ⟨rfl, hb4⟩
      replace hB := below_after hB hb4 hB.size
      clear hb4 ra
      by_cases q1 : at' < endH l (h + 1)
      · have d : decide (at' < endH l (h + 1)) = true := decide_eq_true q1
        rw [d]
        have Q1 := Lib.hid q1
        clear d q1
        go_wp2
        go_roundw
        case rel => exact ⟨p, h, by omega, by omega, rfl, by go_num, HF.out.1, fun j a b => by
          by_cases e : j = h
          · subst e; exact Q1.out
          · have := ordH_ends HH.out.1.2 (j := h) (k := j) (by omega) (by rw [HH.out.2.1.1]; exact b); have := Q1.out; omega, hB⟩
        case measure => simp [intOf]; omega
      · have d : decide (at' < endH l (h + 1)) = false := decide_eq_false q1
        rw [d]
        have Q1 := Lib.hid (Int.not_lt.1 q1)
        clear d q1
        go_wp2
        go_roundw
        case rel => exact ⟨h + 1, q, by omega, by omega, by go_num, rfl, fun j a => by
          by_cases e : j = h
          · subst e; exact Q1.out
          · have := ordH_ends HH.out.1.2 (j := j) (k := h) (by omega) (by rw [HH.out.2.1.1]; omega); have := Q1.out; omega, HF.out.2, hB⟩
        case measure => simp [intOf]; omega
    · obtain rfl : p = q := by omega
      go_wp2
      go_ret
      exact ⟨p, hq, HF.out.1, HF.out.2, rfl, hB⟩
def RunOk (n : Int) (r : Dt) : Prop := 0 ≤ r.1 ∧ 0 < r.2.1 ∧ r.1 + r.2.1 ≤ n ∧ 0 ≤ r.2.2.1 ∧ r.2.2.1 + r.2.1 ≤ 2199023255552 ∧ r.2.2.2 = 0
abbrev Ru (n : Int) := { r : Dt // RunOk n r }
abbrev ruL {n : Int} (l : List (Ru n)) : List Dt := l.map (·.1)
abbrev eD (x : Dt) : Array Value := #[.agg #[.int .i64 x.1, .int .i64 x.2.1, .int .i64 x.2.2.1, .int .i64 x.2.2.2]]

set_option maxRecDepth 100000 in
set_option maxHeartbeats 4000000 in
theorem runs1_inO (m : Nat) (hm1 : 1 ≤ m) (lp Bs Bp Bn b off len cap : Nat) (a : Option Addr) (l : List Ht) (first n : Int) (own : Nat → Obj → Prop) (hord : OrdS l) (hlen : l.length = len) (hcap : len ≤ cap) (_hcm : cap ≤ 9223372036854775807) (hf0 : -2097152 ≤ first) (hf1 : first ≤ 1099511627776) (hn0 : 0 ≤ n) (hn1 : n ≤ 16777216)
    (J Jx : List (Ru n) → World → Prop) (W : World) (hJ : AbidesFrom W.heap.size J)
    (hY : ∀ pre x W1, J pre W1 → pre.length < len + 1 → YieldAt Fence.wide (m - 1) Try.prog lp (eD x.1) W1 fun e W' =>
      (e = .returned (.bool true) ∧ J (pre ++ [x]) W' ∧ KpO own W1 W') ∨ (e = .returned (.bool false) ∧ Jx (pre ++ [x]) W'))
    (hBs : W.heap[Bs]? = some (.cells #[.slice a len cap] 22 (0, 0))) (hBp : W.heap[Bp]? = some (.cells #[.int .i64 first] 3 (0, 0))) (hBn : W.heap[Bn]? = some (.cells #[.int .i64 n] 3 (0, 0))) (hM : Hs W a len b off l)
    (hoP : ¬ own Bp (.cells #[.int .i64 first] 3 (0, 0))) (hoN : ¬ own Bn (.cells #[.int .i64 n] 3 (0, 0))) (hob : 0 < len → ∀ ob, ¬ own b ob) (h0 : J [] W) :
    CallsIn Fence.wide m Try.prog 36 #[.func (.yield lp) #[] #[], .pointer (some ⟨Bs, 0, none⟩), .pointer (some ⟨Bp, 0, none⟩), .pointer (some ⟨Bn, 0, none⟩)] W fun e W' => (∃ v, e = .returned v) ∧
      ((∃ ys, ruL ys = runsL l first n ∧ J ys W') ∨ (∃ pre, (pre.length ≤ len + 1) ∧ Jx pre W')) := by
  refine callsIn_of_wp Try.func36 rfl trivial ?_ rfl
  simp only [Try.ntmps36, List.size_toArray, List.length_cons, List.length_nil, Nat.reduceAdd, Nat.reduceSub, Array.replicate_succ, Array.replicate_zero, List.push_toArray, List.append_toArray, List.nil_append, List.cons_append]
  have cB := blk_cell hBs 0
  simp at cB
  gi_wp2
  refine ⟨trivial, ?_⟩
  refine (callsIn_wide.2 (hsearch_any Bs Bp b off len cap l first W hord a hM hBs hBp)).mono ?_
  rintro e W1 ⟨k0, hk0, hlo, hhi, rfl, hb⟩
  have h65 : len ≤ 65536 := by rw [← hlen]; exact hord.1
  have cB1 := blk_cell (blk_below hBs hb (Array.getElem?_eq_some_iff.1 hBs).1) 0
  simp at cB1
  have HS := Lib.hid (show _ ∧ _ ∧ _ ∧ _ from ⟨hlo, hhi, hb, hM⟩)
  clear hlo hhi cB
  obtain ⟨q0, hq0⟩ : ∃ q0 : Nat, q0 = len - k0 := ⟨_, rfl⟩
  have hqa : q0 + k0 ≤ len := by omega
  have hqb : len ≤ q0 + k0 := by omega
  have HQ0 := Lib.hid hq0
  clear hq0
  have hk0' : ¬ len < k0 := by omega
  have hk1' : ¬ cap < len := by omega
  gi_upto_region 1 with fail
  refine wpIn_wide.2 ?_
  go_cut [16, 17, 18] from 14 to 18 (fun s z i wx => ∃ a3 c3, s = .slice a3 q0 c3 ∧ z = .int .i64 q0 ∧ i = .int .i64 0 ∧ wx = W1 ∧ (k0 < len → a3 = some ⟨b, off + k0 * 5, none⟩))
  case first =>
    by_cases hcj : cap = k0
    · go_wp2
      go_meet
      case rel => exact ⟨_, _, by rw [HQ0.out], by rw [HQ0.out], rfl, rfl, fun h => by omega⟩
    · go_wp2
      go_meet
      case rel => exact ⟨_, _, by rw [HQ0.out], by rw [HQ0.out], rfl, rfl, fun h => by
        rw [(hM.2.1 (by omega)).1]
        show some (Addr.add ⟨b, off, none⟩ (k0 * 5)) = _
        rw [Go.WideShapes.add_plain]⟩
  obtain ⟨a3, c3, rfl, rfl, rfl, hwc, ha3⟩ := hcut
  subst wc
  clear cB1
  have hJ1 := abides_below hJ h0 HS.out.2.2.1
  have hst : runTo l first n k0 = [] := (runTo_none (Nat.zero_le k0) (by omega) fun j _ h => runH_before (by have := HS.out.1 j h; exact this)).trans rfl
  gi_wp2
  gi_loopw [18] (fun i wr => ∃ (q : Nat) (pre : List (Ru n)), q ≤ q0 ∧ i = .int .i64 q ∧ ruL pre = runTo l first n (k0 + q) ∧ J pre wr ∧ KpO own W wr) (fun i _ => q0 - (intOf i).toNat)
  case atStart => exact ⟨0, [], Nat.zero_le _, rfl, by rw [Nat.add_zero, hst]; rfl, hJ1, KpO.below own HS.out.2.2.1⟩
  case round =>
    clear hst hJ1
    obtain ⟨q, pre, hq, rfl, hpre, hJr, hKr⟩ := hrel
    by_cases hlt : q < q0
    case neg =>
      obtain rfl : q = q0 := by omega
      have ES := Lib.hid (show ruL pre = runsL l first n from by rw [hpre, ← runTo_all, show k0 + q = l.length by omega])
      clear hpre
      gi_wp2
      go_end0
      exact ⟨⟨_, rfl⟩, .inl ⟨_, ES.out, hJr⟩⟩
    obtain rfl := ha3 (by omega)
    have hP := hKr.same _ _ hBp rfl hoP
    have hN := hKr.same _ _ hBn rfl hoN
    obtain ⟨c0, c1, c2, c3', c4⟩ := hM.2.2 (k0 + q) (by omega)
    rw [show off + (k0 + q) * 5 = off + k0 * 5 + q * 5 by omega] at c0 c1 c2 c3' c4
    replace c0 := hKr.cell c0 (hob (by omega)); replace c1 := hKr.cell c1 (hob (by omega)); replace c2 := hKr.cell c2 (hob (by omega)); replace c3' := hKr.cell c3' (hob (by omega)); replace c4 := hKr.cell c4 (hob (by omega))
    have hls := runTo_len l first n (k0 + q)
    have e1 := fun h => runTo_skip (l := l) (first := first) (n := n) (k := k0 + q) (by omega) h
    have e2 := fun r h => runTo_more (l := l) (first := first) (n := n) (k := k0 + q) (r := r) (by omega) h
    have e3 : n ≤ ruF first (nthH l (k0 + q)) → runTo l first n (k0 + q) = runsL l first n := fun h => by
      rw [← runTo_all]
      exact (runTo_none (by omega) (Nat.le_refl _) fun j h1 h2 => runH_behind (Int.le_trans h (ruF_mono (ordH_mono hord.2 h1 h2)))).symm
    have hx0 := hord.2 (k0 + q) (by omega)
    have hx1 := (endH_in (l := l) (k := k0 + q) fun i hi => hord.2 i (by omega)).1
    unfold OkH at hx0
    generalize nthH l (k0 + q) = x at *
    have hrH : runH first n x = if x.2.2.2.1 = true ∧ x.2.2.2.2 = true ∧ ruF first x < ruT first n x then some (ruF first x, ruT first n x - ruF first x, x.2.2.1 + first + ruF first x - x.1, 0) else none := rfl
    have hF1 : ruF first x = max 0 (x.1 - first) := rfl
    have hT1 : ruT first n x = min n (x.1 + x.2.1 - first) := rfl
    obtain ⟨x0, x1, x2, x3, x4⟩ := x
    dsimp only at *
    have hB0 : 0 ≤ ruF first (x0, x1, x2, x3, x4) ∧ ruF first (x0, x1, x2, x3, x4) ≤ 1099515822080 ∧ ruT first n (x0, x1, x2, x3, x4) ≤ 16777216 ∧ -1099511627777 ≤ ruT first n (x0, x1, x2, x3, x4) := by rw [hF1, hT1]; omega
    generalize ruF first (x0, x1, x2, x3, x4) = fr at *
    generalize ruT first n (x0, x1, x2, x3, x4) = te at *
    rw [← hpre] at hls e1 e2 e3
    simp only [List.length_map] at hls
    clear hpre
    obtain ⟨wX, hwX⟩ : ∃ wX, wX = wr.alloc (.cells #[.int .i64 x0, .int .i64 x1, .int .i64 x2, .bool x3, .bool x4] 50) := ⟨_, rfl⟩
    have hBX : Below wr.heap.size wr wX := by rw [hwX]; exact (Below.refl _ wr).alloc (Nat.le_refl _) _
    have hkX : wX.heap[wr.heap.size]? = some (.cells #[.int .i64 x0, .int .i64 x1, .int .i64 x2, .bool x3, .bool x4] 50 (0, 0)) := by rw [hwX]; exact blk_new _ _
    have hPX := blk_below hP hBX (Array.getElem?_eq_some_iff.1 hP).1
    have hNX := blk_below hN hBX (Array.getElem?_eq_some_iff.1 hN).1
    have g0 := cell_regrown (blk_cell hPX 0); have g1 := cell_regrown (blk_cell hNX 0); have s0 := cell_regrown (blk_cell hkX 0); have s1 := cell_regrown (blk_cell hkX 1)
    simp at g0 g1 s0 s1
    have HX := Lib.hid (show _ ∧ _ ∧ _ ∧ _ ∧ _ ∧ _ ∧ _ from ⟨e1, e2, e3, abides_below hJ hJr hBX, kpO_t hKr (KpO.below own hBX), hrH, (⟨hPX, hNX, hkX, hBX⟩ : _ ∧ _ ∧ _ ∧ _)⟩)
    have HFT := Lib.hid (show _ ∧ _ from ⟨hF1, hT1⟩)
    have HHH := Lib.hid (show _ ∧ _ from ⟨HS.out, ha3⟩)
    clear e1 e2 e3 hP hN hPX hNX hkX hBX hJr hKr hrH hF1 hT1 ha3 HS
    gi_upto_region 4 with fail
    rw [← hwX]
    clear hwX c0 c1 c2 c3' c4
    refine wpIn_wide.2 ?_
    go_cut [8, 9] from 22 to 35 (fun f t wx => f = .int .i64 fr ∧ t = .int .i64 te ∧ Below wX.heap.size wX wx)
    case first =>
      refine wp_region_quiet_below (by kernel_rfl) (by kernel_rfl) ?_
      repeat (go_big_quiet_step ((fail)))
      refine wpQuiet_nil ?_
      intro Wq hb'
      have hb := of_regrown hb'
      clear hb'
      go_wp2
      all_goals go_meet
      all_goals exact ⟨by simp only [Value.int.injEq, true_and]; have := HFT.out.1; omega, by simp only [Value.int.injEq, true_and]; have := HFT.out.2; omega, hb⟩
    obtain ⟨rfl, rfl, hbc⟩ := hcut
    have HC := Lib.hid (show _ ∧ _ ∧ _ ∧ _ ∧ _ ∧ _ from ⟨abides_below hJ HX.out.2.2.2.1 hbc, kpO_t HX.out.2.2.2.2.1 (KpO.below own hbc), blk_below HX.out.2.2.2.2.2.2.1 hbc (Array.getElem?_eq_some_iff.1 HX.out.2.2.2.2.2.2.1).1, blk_below HX.out.2.2.2.2.2.2.2.1 hbc (Array.getElem?_eq_some_iff.1 HX.out.2.2.2.2.2.2.2.1).1, blk_below HX.out.2.2.2.2.2.2.2.2.1 hbc (Array.getElem?_eq_some_iff.1 HX.out.2.2.2.2.2.2.2.2.1).1, hbc⟩)
    clear hbc g0 g1 s0 s1
    have g0 := blk_cell HC.out.2.2.1 0; have g1 := blk_cell HC.out.2.2.2.1 0; have s0 := blk_cell HC.out.2.2.2.2.1 0; have s2 := blk_cell HC.out.2.2.2.2.1 2; have s3 := blk_cell HC.out.2.2.2.2.1 3; have s4 := blk_cell HC.out.2.2.2.2.1 4
    simp at g0 g1 s0 s2 s3 s4
    by_cases hnf : n ≤ fr
    · have ES := Lib.hid (HX.out.2.2.1 hnf)
      gi_wp2
      refine bodyPost_ret (results_none rfl _ _ _) rfl ?_
      exact ⟨⟨_, rfl⟩, .inl ⟨_, ES.out, HC.out.1⟩⟩
    by_cases hall : x3 = true ∧ x4 = true ∧ fr < te
    case neg =>
      have N := Lib.hid (HX.out.1 (by rw [HX.out.2.2.2.2.2.1]; exact if_neg hall))
      cases x3
      case false =>
        gi_wp2_with (with_reducible refine ⟨fun f h => (by cases h), ?_⟩)
        go_roundw
        case rel => exact ⟨q + 1, pre, by omega, by go_num, by rw [← Nat.add_assoc, N.out], HC.out.1, HC.out.2.1⟩
        case measure => simp [intOf]; omega
      cases x4
      case false =>
        gi_wp2_with (with_reducible refine ⟨fun f h => (by cases h), ?_⟩)
        go_roundw
        case rel => exact ⟨q + 1, pre, by omega, by go_num, by rw [← Nat.add_assoc, N.out], HC.out.1, HC.out.2.1⟩
        case measure => simp [intOf]; omega
      have z : ¬ fr < te := fun h => hall ⟨rfl, rfl, h⟩
      clear hall
      gi_wp2_with (with_reducible refine ⟨fun f h => (by cases h), ?_⟩)
      go_roundw
      case rel => exact ⟨q + 1, pre, by omega, by go_num, by rw [← Nat.add_assoc, N.out], HC.out.1, HC.out.2.1⟩
      case measure => simp [intOf]; omega
    have N := Lib.hid (HX.out.2.1 _ ((HX.out.2.2.2.2.2.1).trans (if_pos hall)))
    obtain ⟨rfl, rfl, z⟩ := hall
    have hok : RunOk n (fr, te - fr, x2 + first + fr - x0, 0) := by have h1 := HFT.out.1; have h2 := HFT.out.2; unfold RunOk; dsimp only; omega
    obtain ⟨fn, tmps, assign, bdy, hy, hR⟩ := hY pre ⟨(fr, te - fr, x2 + first + fr - x0, 0), hok⟩ wc HC.out.1 (by omega)
    have HOK := Lib.hid hok
    gi_wp2
    refine hR.mono ?_
    clear hy hR
    rintro e W3 (⟨rfl, hJ3, hk3⟩ | ⟨rfl, hJx3⟩)
    · gi_wp2
      go_roundw
      case rel => exact ⟨q + 1, pre ++ [⟨(fr, te - fr, x2 + first + fr - x0, 0), hok⟩], by omega, by go_num, by rw [← Nat.add_assoc, N.out]; exact List.map_append, hJ3, kpO_t HC.out.2.1 hk3⟩
      case measure => simp [intOf]; omega
    · gi_wp2
      refine bodyPost_ret (results_none rfl _ _ _) rfl ?_
      exact ⟨⟨_, rfl⟩, .inr ⟨pre ++ [⟨(fr, te - fr, x2 + first + fr - x0, 0), hok⟩], by simp; omega, hJx3⟩⟩
theorem runs_stopsO (m : Nat) (hm1 : 1 ≤ m) (Bs Bp Bn b off len cap : Nat) (a : Option Addr) (l : List Ht) (first n : Int) (own : Nat → Obj → Prop) (hord : OrdS l) (hlen : l.length = len) (hcap : len ≤ cap) (_hcm : cap ≤ 9223372036854775807) (hf0 : -2097152 ≤ first) (hf1 : first ≤ 1099511627776) (hn0 : 0 ≤ n) (hn1 : n ≤ 16777216) (w : World)
    (hBs : w.heap[Bs]? = some (.cells #[.slice a len cap] 22 (0, 0))) (hBp : w.heap[Bp]? = some (.cells #[.int .i64 first] 3 (0, 0))) (hBn : w.heap[Bn]? = some (.cells #[.int .i64 n] 3 (0, 0))) (hM : Hs w a len b off l)
    (hoP : ¬ own Bp (.cells #[.int .i64 first] 3 (0, 0))) (hoN : ¬ own Bn (.cells #[.int .i64 n] 3 (0, 0))) (hob : 0 < len → ∀ ob, ¬ own b ob) :
    SeqStopsK Fence.wide m Try.prog 36 #[.pointer (some ⟨Bs, 0, none⟩), .pointer (some ⟨Bp, 0, none⟩), .pointer (some ⟨Bn, 0, none⟩)] (fun x : Ru n => eD x.1) (KpO own) (fun ys => ruL ys = runsL l first n) (fun pre => pre.length ≤ len + 1) (len + 1) w := fun lp J Jx W hW hJ _ hY h0 => by
  exact runs1_inO m hm1 lp Bs Bp Bn b off len cap a l first n own hord hlen hcap _hcm hf0 hf1 hn0 hn1 J Jx W hJ hY (blk_below hBs hW (Array.getElem?_eq_some_iff.1 hBs).1) (blk_below hBp hW (Array.getElem?_eq_some_iff.1 hBp).1) (blk_below hBn hW (Array.getElem?_eq_some_iff.1 hBn).1) (hM.grown hW) hoP hoN hob h0

theorem runs_in (m : Nat) (a : Option Addr) (len cap : Nat) (first n : Int) (w : World) :
    CallsIn Fence.wide m Try.prog 28 #[.slice a len cap, .int .i64 first, .int .i64 n] w fun e w' => e = .returned (.func (.func 36) #[] #[.pointer (some ⟨w.heap.size, 0, none⟩), .pointer (some ⟨w.heap.size + 1, 0, none⟩), .pointer (some ⟨w.heap.size + 1 + 1, 0, none⟩)]) ∧
      w' = ((w.alloc (.cells #[.slice a len cap] 22)).alloc (.cells #[.int .i64 first] 3)).alloc (.cells #[.int .i64 n] 3) := by
  refine callsIn_of_wp Try.func28 rfl trivial ?_ rfl
  simp only [Try.ntmps28, List.size_toArray, List.length_cons, List.length_nil, Nat.reduceAdd, Nat.reduceSub, Array.replicate_succ, Array.replicate_zero, List.push_toArray, List.append_toArray, List.nil_append, List.cons_append]
  gi_wp2
  go_ret
  exact ⟨by simp, by simp⟩
end Go.Proofs.Ythnhnmmabjmjgaa
