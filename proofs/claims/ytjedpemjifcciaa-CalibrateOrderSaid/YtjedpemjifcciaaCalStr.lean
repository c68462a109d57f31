/- The iterator over the stretches of a device (layer 42). -/
import Derived.Test.YtjedpemjifcciaaCalCnt
import Derived.Laws.EntriesVeiled
namespace Go.Proofs.Ytjedpemjifcciaa
open Go.RowKit Go.Shelf

attribute [local go_sem] Oper.semAt_some

/-- Cells that are not the caller's own lie as they lay: by their place and what they hold. -/
structure KpO (own : Nat → Obj → Prop) (W W' : World) : Prop where
  size : W.heap.size ≤ W'.heap.size
  same : ∀ (k : Nat) (o : Obj), W.heap[k]? = some o → o.isCells = true → ¬ own k o → W'.heap[k]? = some o
theorem KpO.refl (own : Nat → Obj → Prop) (W : World) : KpO own W W := ⟨Nat.le_refl _, fun _ _ h _ _ => h⟩
theorem kpO_t {own : Nat → Obj → Prop} : ∀ {A B C : World}, KpO own A B → KpO own B C → KpO own A C := fun h k =>
  ⟨Nat.le_trans h.size k.size, fun i o hi ho hn => k.same i o (h.same i o hi ho hn) ho hn⟩
theorem kpO_b {own : Nat → Obj → Prop} {B : Nat} : ∀ (W : World) (l : Nat) (o o' : Obj), B ≤ l → W.heap[l]? = some o → o.isCells = false → o.isWalk = false → KpO own W (W.putObj l o') := fun W l o o' _ hl ho _ =>
  ⟨by simp, fun k x hk hx _ => by
    by_cases e : k = l
    · subst e; rw [hl] at hk; cases hk; rw [ho] at hx; cases hx
    · exact (World.putObj_heap_other e).trans hk⟩
theorem KpO.alloc (own : Nat → Obj → Prop) (W : World) (o : Obj) : KpO own W (W.alloc o) :=
  ⟨by simp, fun k _ hk _ _ => (Below.heap_alloc W o k (Array.getElem?_eq_some_iff.1 hk).1).trans hk⟩
theorem KpO.below (own : Nat → Obj → Prop) {W W' : World} (h : Below W.heap.size W W') : KpO own W W' :=
  ⟨h.size, fun k _ hk _ _ => (h.block k (Array.getElem?_eq_some_iff.1 hk).1).trans hk⟩
theorem KpO.cell {own : Nat → Obj → Prop} {W W' : World} (h : KpO own W W') {b o : Nat} {v : Value} (hc : W.cell? ⟨b, o, none⟩ = some v) (hn : ∀ ob, ¬ own b ob) : W'.cell? ⟨b, o, none⟩ = some v := by
  have hlt := World.block_lt_of_cell? W _ hc
  have e : W.heap[b]? = some W.heap[b] := Array.getElem?_eq_getElem hlt
  have hce : W.heap[b].isCells = true := by
    simp only [World.cell?, e] at hc
    generalize W.heap[b] = ob at *
    cases ob <;> first | rfl | (simp at hc)
  exact (World.cell?_of_block (a := ⟨b, o, none⟩) ((h.same b _ e hce (hn _)).trans e.symm)).trans hc

/-- The stretches that the first k records give, and where the next one begins. -/
def strTo (l : List Rt) (d : Int) : Nat → List (Int × Int) × Int
  | 0 => ([], 0)
  | k + 1 => if (nthR l k).1 ≠ d ∨ (nthR l k).2.1 = (strTo l d k).2 then strTo l d k else ((strTo l d k).1 ++ [((strTo l d k).2, (nthR l k).2.1)], (nthR l k).2.1)
def strs (l : List Rt) (d : Int) : List (Int × Int) := (strTo l d l.length).1 ++ [((strTo l d l.length).2, 1099511627777)]
theorem strTo_skip {l : List Rt} {d : Int} {k : Nat} (h : (nthR l k).1 ≠ d ∨ (nthR l k).2.1 = (strTo l d k).2) : strTo l d (k + 1) = strTo l d k := if_pos h
theorem strTo_more {l : List Rt} {d : Int} {k : Nat} (h : (nthR l k).1 = d) (h2 : (nthR l k).2.1 ≠ (strTo l d k).2) : strTo l d (k + 1) = ((strTo l d k).1 ++ [((strTo l d k).2, (nthR l k).2.1)], (nthR l k).2.1) :=
  if_neg fun g => g.elim (fun g => g h) h2
theorem strTo_len (l : List Rt) (d : Int) (k : Nat) : (strTo l d k).1.length ≤ k := by
  induction k with
  | zero => simp [strTo]
  | succ k ih =>
    by_cases h : (nthR l k).1 ≠ d ∨ (nthR l k).2.1 = (strTo l d k).2
    · rw [strTo_skip h]; omega
    · rw [strTo_more (by simpa using fun g => h (.inl g)) (fun g => h (.inr g))]; simp; omega
abbrev eS (x : Int × Int) : Array Value := #[.int .i64 x.1, .int .i64 x.2]

set_option maxRecDepth 100000 in
set_option maxHeartbeats 4000000 in
theorem stretches1_inO (F : Fence) (n : Nat) (hF : F.fn 37) (hro : F.round = none) (hn : 1 ≤ n) (lp Bs Bd b off len cap : Nat) (a : Option Addr) (l : List Rt) (d : Int) (own : Nat → Obj → Prop) (hlen : l.length = len) (h256 : len ≤ 256)
    (J Jx : List (Int × Int) → World → Prop) (W : World) (hoW : ∀ k cs, ¬ own k (.cells cs 24 (0, 0))) (hJ : AbidesFrom W.heap.size J)
    (hY : ∀ pre x W1, J pre W1 → pre.length < len + 1 → YieldAt F (n - 1) Try.prog lp (eS x) W1 fun e W' =>
      (e = .returned (.bool true) ∧ J (pre ++ [x]) W' ∧ KpO own W1 W') ∨ (e = .returned (.bool false) ∧ Jx (pre ++ [x]) W'))
    (hBs : W.heap[Bs]? = some (.cells #[.slice a len cap] 22 (0, 0))) (hBd : W.heap[Bd]? = some (.cells #[.int .i64 d] 3 (0, 0))) (hM : Rs W a len b off l) (hoB : ¬ own Bs (.cells #[.slice a len cap] 22 (0, 0))) (hoD : ¬ own Bd (.cells #[.int .i64 d] 3 (0, 0))) (hob : 0 < len → ∀ ob, ¬ own b ob) (h0 : J [] W) :
    CallsIn F n Try.prog 37 #[.func (.yield lp) #[] #[], .pointer (some ⟨Bs, 0, none⟩), .pointer (some ⟨Bd, 0, none⟩)] W fun e W' => (∃ v, e = .returned v) ∧
      ((∃ ys, ys = strs l d ∧ J ys W') ∨ (∃ pre, (pre.length ≤ len + 1) ∧ Jx pre W')) := by
  refine callsIn_of_wp Try.func37 rfl hF ?_ hro
  simp only [Try.ntmps37, List.size_toArray, List.length_cons, List.length_nil, Nat.reduceAdd, Nat.reduceSub, Array.replicate_succ, Array.replicate_zero, List.push_toArray, List.append_toArray, List.nil_append, List.cons_append]
  have cB := blk_cell hBs 0
  simp at cB
  gi_wp2
  gi_loopw [4, 9] (fun f i wr => ∃ k : Nat, k ≤ len ∧ i = .int .i64 k ∧ f = .int .i64 (strTo l d k).2 ∧ J (strTo l d k).1 wr ∧ KpO own W wr) (fun _ i _ => len - (intOf i).toNat)
  case atStart => exact ⟨0, Nat.zero_le _, rfl, rfl, h0, KpO.refl _ _⟩
  case round =>
    obtain ⟨k, hk, rfl, rfl, hJr, hKr⟩ := hrel
    have cD := blk_cell (hKr.same _ _ hBd rfl hoD) 0
    simp at cD
    clear cB
    by_cases hlt : k < len
    · obtain ⟨rfl, hbw⟩ := hM.2.1 (by omega)
      obtain ⟨c0, c1, c2, c3, c4⟩ := hM.2.2 k hlt
      replace c0 := hKr.cell c0 (hob (by omega)); replace c1 := hKr.cell c1 (hob (by omega)); replace c2 := hKr.cell c2 (hob (by omega)); replace c3 := hKr.cell c3 (hob (by omega)); replace c4 := hKr.cell c4 (hob (by omega))
      have hsz := hKr.size
      have hls := strTo_len l d k
      have e1 := fun h => strTo_skip (l := l) (d := d) (k := k) h
      have e2 := fun h h2 => strTo_more (l := l) (d := d) (k := k) h h2
      generalize hx : nthR l k = x at *
      obtain ⟨x0, x1, x2, x3, x4⟩ := x
      generalize hst : strTo l d k = st at *
      obtain ⟨pre, f⟩ := st
      dsimp only at *
      have hBd' := World.block_lt_of_cell? wr _ cD
      have hJa := abides_below hJ hJr ((Below.refl wr.heap.size wr).alloc (Nat.le_refl _) (.cells #[.int .i64 x0, .int .i64 x1, .int .i64 x2, .int .i64 x3, .int .i64 x4] 24))
      have HX := Lib.hid (show _ ∧ _ ∧ _ ∧ _ from ⟨e1, e2, hJa, hKr⟩)
      clear e1 e2 hx hst hJa
      by_cases q0 : x0 = d
      case neg =>
        have z0 : (x0 != d) = true := by simpa using q0
        have N := Lib.hid (HX.out.1 (.inl q0))
        clear hJr hKr q0
        gi_wp2
        go_roundw
        case rel => exact ⟨k + 1, by omega, by go_num, by rw [N.out], by rw [N.out]; exact HX.out.2.2.1, kpO_t HX.out.2.2.2 (KpO.alloc own _ _)⟩
        case measure => simp [intOf]; omega
      have z0 : (x0 != d) = false := by simpa using q0
      by_cases q1 : x1 = f
      case pos =>
        have z1 : (x1 == f) = true := by simpa using q1
        have N := Lib.hid (HX.out.1 (.inr q1))
        clear hJr hKr q0 q1
        gi_wp2
        go_roundw
        case rel => exact ⟨k + 1, by omega, by go_num, by rw [N.out], by rw [N.out]; exact HX.out.2.2.1, kpO_t HX.out.2.2.2 (KpO.alloc own _ _)⟩
        case measure => simp [intOf]; omega
      have z1 : (x1 == f) = false := by simpa using q1
      have N := Lib.hid (HX.out.2.1 q0 q1)
      clear q0 q1
      obtain ⟨wX, hwX⟩ : ∃ wX, wX = wr.alloc (.cells #[.int .i64 x0, .int .i64 x1, .int .i64 x2, .int .i64 x3, .int .i64 x4] 24) := ⟨_, rfl⟩
      have hBX : Below wr.heap.size wr wX := by rw [hwX]; exact (Below.refl _ wr).alloc (Nat.le_refl _) _
      have hkX : wX.heap[wr.heap.size]? = some (.cells #[.int .i64 x0, .int .i64 x1, .int .i64 x2, .int .i64 x3, .int .i64 x4] 24 (0, 0)) := by
        rw [hwX]; exact blk_new _ _
      obtain ⟨fn, tmps, assign, bdy, hy, hR⟩ := hY pre (f, x1) wX (abides_below hJ hJr hBX) (by omega)
      rw [hwX] at hy hR
      have HB := Lib.hid (show _ ∧ _ from ⟨hBX, hkX⟩)
      clear hBX hkX hJr hKr
      gi_wp2
      refine hR.mono ?_
      rw [← hwX]
      have HWX := Lib.hid hwX; clear hwX hy hR
      rintro e W3 (⟨rfl, hJ3, hk3⟩ | ⟨rfl, hJx3⟩)
      · have k3 := hk3.same _ _ HB.out.2 rfl (hoW _ _)
        have s0 := blk_cell k3 0; have s1 := blk_cell k3 1; have s2 := blk_cell k3 2; have s3 := blk_cell k3 3; have s4 := blk_cell k3 4
        simp at s0 s1 s2 s3 s4
        clear k3 c0 c1 c2 c3 c4 cD
        gi_wp2
        go_roundw
        case rel => exact ⟨k + 1, by omega, by go_num, by rw [N.out], by rw [N.out]; exact hJ3, kpO_t (kpO_t HX.out.2.2.2 (KpO.below own HB.out.1)) hk3⟩
        case measure => simp [intOf]; omega
      · gi_wp2
        refine bodyPost_ret (results_none rfl _ _ _) rfl ?_
        exact ⟨⟨_, rfl⟩, .inr ⟨pre ++ [(f, x1)], by simp; omega, hJx3⟩⟩
    · obtain rfl : k = len := by omega
      have hls := strTo_len l d k
      have eS' : strs l d = (strTo l d k).1 ++ [((strTo l d k).2, 1099511627777)] := by unfold strs; rw [hlen]
      generalize hst : strTo l d k = st at *
      obtain ⟨pre, f⟩ := st
      dsimp only at *
      obtain ⟨fn, tmps, assign, bdy, hy, hR⟩ := hY pre (f, 1099511627777) wr hJr (by omega)
      have ES := Lib.hid eS'
      clear eS' hst
      gi_wp2
      refine hR.mono ?_
      clear hy hR
      rintro e W3 (⟨rfl, hJ3, hk3⟩ | ⟨rfl, hJx3⟩)
      · gi_wp2
        go_end0
        exact ⟨⟨_, rfl⟩, .inl ⟨_, ES.out.symm, hJ3⟩⟩
      · gi_wp2
        go_end0
        exact ⟨⟨_, rfl⟩, .inr ⟨pre ++ [(f, 1099511627777)], by simp; omega, hJx3⟩⟩

theorem stretches_stopsO (F : Fence) (n : Nat) (hF : F.fn 37) (hro : F.round = none) (hn : 1 ≤ n) (Bs Bd b off len cap : Nat) (a : Option Addr) (l : List Rt) (d : Int) (own : Nat → Obj → Prop) (hlen : l.length = len) (h256 : len ≤ 256) (w : World)
    (hoW : ∀ k cs, ¬ own k (.cells cs 24 (0, 0))) (hBs : w.heap[Bs]? = some (.cells #[.slice a len cap] 22 (0, 0))) (hBd : w.heap[Bd]? = some (.cells #[.int .i64 d] 3 (0, 0))) (hM : Rs w a len b off l)
    (hoB : ¬ own Bs (.cells #[.slice a len cap] 22 (0, 0))) (hoD : ¬ own Bd (.cells #[.int .i64 d] 3 (0, 0))) (hob : 0 < len → ∀ ob, ¬ own b ob) :
    SeqStopsK F n Try.prog 37 #[.pointer (some ⟨Bs, 0, none⟩), .pointer (some ⟨Bd, 0, none⟩)] (fun x : Int × Int => eS x) (KpO own) (fun ys => ys = strs l d) (fun pre => pre.length ≤ len + 1) (len + 1) w := fun lp J Jx W hW hJ _ hY h0 => by
  exact stretches1_inO F n hF hro hn lp Bs Bd b off len cap a l d own hlen h256 J Jx W hoW hJ hY (blk_below hBs hW (Array.getElem?_eq_some_iff.1 hBs).1) (blk_below hBd hW (Array.getElem?_eq_some_iff.1 hBd).1) (hM.grown hW) hoB hoD hob h0

theorem stretches_in (F : Fence) (n : Nat) (hF : F.fn 30) (hro : F.round = none) (a : Option Addr) (len cap : Nat) (d : Int) (w : World) :
    CallsIn F n Try.prog 30 #[.slice a len cap, .int .i64 d] w fun e w' => e = .returned (.func (.func 37) #[] #[.pointer (some ⟨w.heap.size, 0, none⟩), .pointer (some ⟨w.heap.size + 1, 0, none⟩)]) ∧
      w' = (w.alloc (.cells #[.slice a len cap] 22)).alloc (.cells #[.int .i64 d] 3) := by
  refine callsIn_of_wp Try.func30 rfl hF ?_ hro
  simp only [Try.ntmps30, List.size_toArray, List.length_cons, List.length_nil, Nat.reduceAdd, Nat.reduceSub, Array.replicate_succ, Array.replicate_zero, List.push_toArray, List.append_toArray, List.nil_append, List.cons_append]
  gi_wp2
  go_ret
  exact ⟨by simp, by simp⟩
end Go.Proofs.Ytjedpemjifcciaa
