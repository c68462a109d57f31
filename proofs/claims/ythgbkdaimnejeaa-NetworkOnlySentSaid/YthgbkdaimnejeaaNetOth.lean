/- The iterator over the other pairs (layer 6). -/
import Derived.Test.YthgbkdaimnejeaaNetCont
import Derived.Laws.EntriesVeiled
import Derived.Sort.CutIn
namespace Go.Proofs.Ythgbkdaimnejeaa
open Go.ChangeShapes Go.WideShapes Go.ChangeAt Go.RowKit Go.Shelf

attribute [local go_sem] Oper.semAt_some

/-- Cells that are not the caller's own lie as they lay: by their place and what they hold. -/
structure KpO (own : Nat → Obj → Prop) (W W' : World) : Prop where
  size : W.heap.size ≤ W'.heap.size
  same : ∀ (k : Nat) (o : Obj), W.heap[k]? = some o → o.isCells = true → ¬ own k o → W'.heap[k]? = some o
theorem KpO.refl (own : Nat → Obj → Prop) (W : World) : KpO own W W := ⟨Nat.le_refl _, fun _ _ h _ _ => h⟩
theorem kpO_t {own : Nat → Obj → Prop} : ∀ {A B C : World}, KpO own A B → KpO own B C → KpO own A C := fun h k =>
  ⟨Nat.le_trans h.size k.size, fun i o hi ho hn => k.same i o (h.same i o hi ho hn) ho hn⟩
theorem kpO_b {own : Nat → Obj → Prop} {B : Nat} : ∀ (W : World) (l : Nat) (o o' : Obj), B ≤ l → W.heap[l]? = some o → o.isCells = false → o.isWalk = false → KpO own W (W.putObj l o') := fun W l o o' _ hl ho _ =>
  ⟨by simp, fun k x hk hx _ => by
    by_cases e : k = l
    · subst e; rw [hl] at hk; cases hk; rw [ho] at hx; cases hx
    · exact (World.putObj_heap_other e).trans hk⟩
theorem KpO.alloc (own : Nat → Obj → Prop) (W : World) (o : Obj) : KpO own W (W.alloc o) :=
  ⟨by simp, fun k _ hk _ _ => (Below.heap_alloc W o k (Array.getElem?_eq_some_iff.1 hk).1).trans hk⟩
theorem KpO.below (own : Nat → Obj → Prop) {W W' : World} (h : Below W.heap.size W W') : KpO own W W' :=
  ⟨h.size, fun k _ hk _ _ => (h.block k (Array.getElem?_eq_some_iff.1 hk).1).trans hk⟩
theorem KpO.cell {own : Nat → Obj → Prop} {W W' : World} (h : KpO own W W') {b o : Nat} {v : Value} (hc : W.cell? ⟨b, o, none⟩ = some v) (hn : ∀ ob, ¬ own b ob) : W'.cell? ⟨b, o, none⟩ = some v := by
  have hlt := World.block_lt_of_cell? W _ hc
  have e : W.heap[b]? = some W.heap[b] := Array.getElem?_eq_getElem hlt
  have hce : W.heap[b].isCells = true := by
    simp only [World.cell?, e] at hc
    generalize W.heap[b] = ob at *
    cases ob <;> first | rfl | (simp at hc)
  exact (World.cell?_of_block (a := ⟨b, o, none⟩) ((h.same b _ e hce (hn _)).trans e.symm)).trans hc

/-- The pairs among the first k that are not p. -/
def oth (A : List Qt) (p : Qt) (k : Nat) : List Qt := (A.take k).filter (fun x => decide (x ≠ p))
theorem oth_succ {A : List Qt} {p : Qt} {k : Nat} (h : k < A.length) : oth A p (k + 1) = if nthQ A k = p then oth A p k else oth A p k ++ [nthQ A k] := by
  unfold oth
  rw [List.take_add_one, List.getElem?_eq_getElem h, List.filter_append]
  have e : nthQ A k = A[k] := by unfold nthQ; simp [List.getD_eq_getElem?_getD, h]
  rw [e]
  by_cases hp : A[k] = p <;> simp [hp]
theorem oth_skip {A : List Qt} {p : Qt} {k : Nat} (h : k < A.length) (hp : nthQ A k = p) : oth A p (k + 1) = oth A p k := by rw [oth_succ h, if_pos hp]
theorem oth_more {A : List Qt} {p : Qt} {k : Nat} (h : k < A.length) (hp : nthQ A k ≠ p) : oth A p (k + 1) = oth A p k ++ [nthQ A k] := by rw [oth_succ h, if_neg hp]
theorem oth_len (A : List Qt) (p : Qt) (k : Nat) : (oth A p k).length ≤ k := by
  unfold oth
  have := List.length_filter_le (fun x => decide (x ≠ p)) (A.take k)
  simp at this ⊢; omega
theorem oth_all (A : List Qt) (p : Qt) : oth A p A.length = A.filter (fun x => decide (x ≠ p)) := by unfold oth; rw [List.take_length]
abbrev eQ (x : Qt) : Array Value := #[vQ x]

set_option maxRecDepth 100000 in
set_option maxHeartbeats 4000000 in
theorem others1_inO (F : Fence) (n : Nat) (hF : F.fn 42) (hro : F.round = none) (hn : 1 ≤ n) (lp Bs Bp b off len cap : Nat) (a : Option Addr) (A : List Qt) (p : Qt) (own : Nat → Obj → Prop) (hlen : A.length = len) (hmx : len ≤ 9223372036854775807)
    (J Jx : List Qt → World → Prop) (W : World) (hJ : AbidesFrom W.heap.size J)
    (hY : ∀ pre x W1, J pre W1 → pre.length < len + 1 → YieldAt F (n - 1) Try.prog lp (eQ x) W1 fun e W' =>
      (e = .returned (.bool true) ∧ J (pre ++ [x]) W' ∧ KpO own W1 W') ∨ (e = .returned (.bool false) ∧ Jx (pre ++ [x]) W'))
    (hBs : W.heap[Bs]? = some (.cells #[.slice a len cap] 23 (0, 0))) (hBp : W.heap[Bp]? = some (.cells #[.int .i64 p.1, .int .i64 p.2] 55 (0, 0))) (hM : Qs W a len b off A) (hoP : ¬ own Bp (.cells #[.int .i64 p.1, .int .i64 p.2] 55 (0, 0))) (hob : 0 < len → ∀ ob, ¬ own b ob) (h0 : J [] W) :
    CallsIn F n Try.prog 42 #[.func (.yield lp) #[] #[], .pointer (some ⟨Bs, 0, none⟩), .pointer (some ⟨Bp, 0, none⟩)] W fun e W' => (∃ v, e = .returned v) ∧
      ((∃ ys, ys = A.filter (fun x => decide (x ≠ p)) ∧ J ys W') ∨ (∃ pre, (pre.length ≤ len + 1) ∧ Jx pre W')) := by
  refine callsIn_of_wp Try.func42 rfl hF ?_ hro
  simp only [Try.ntmps42, List.size_toArray, List.length_cons, List.length_nil, Nat.reduceAdd, Nat.reduceSub, Array.replicate_succ, Array.replicate_zero, List.push_toArray, List.append_toArray, List.nil_append, List.cons_append]
  have cB := blk_cell hBs 0
  simp at cB
  gi_wp2
  gi_loopw [8] (fun i wr => ∃ k : Nat, k ≤ len ∧ i = .int .i64 k ∧ J (oth A p k) wr ∧ KpO own W wr) (fun i _ => len - (intOf i).toNat)
  case atStart => exact ⟨0, Nat.zero_le _, rfl, h0, KpO.refl _ _⟩
  case round =>
    obtain ⟨k, hk, rfl, hJr, hKr⟩ := hrel
    clear cB
    by_cases hlt : k < len
    · have hP := hKr.same _ _ hBp rfl hoP
      obtain ⟨rfl, hbw⟩ := hM.2.1 (by omega)
      obtain ⟨c0, c1⟩ := hM.2.2 k hlt
      replace c0 := hKr.cell c0 (hob (by omega)); replace c1 := hKr.cell c1 (hob (by omega))
      have hls := oth_len A p k
      have e1 := fun h => oth_skip (A := A) (p := p) (k := k) (by omega) h
      have e2 := fun h => oth_more (A := A) (p := p) (k := k) (by omega) h
      generalize hx : nthQ A k = x at *
      have hrun := run_eqQ x p
      obtain ⟨x0, x1⟩ := x
      obtain ⟨p0, p1⟩ := p
      generalize hst : oth A (p0, p1) k = pre at *
      dsimp only at *
      dsimp only [encQ] at hrun
      obtain ⟨wX, hwX⟩ : ∃ wX, wX = wr.alloc (.cells #[.int .i64 x0, .int .i64 x1] 55) := ⟨_, rfl⟩
      have hBX : Below wr.heap.size wr wX := by rw [hwX]; exact (Below.refl _ wr).alloc (Nat.le_refl _) _
      have hkX : wX.heap[wr.heap.size]? = some (.cells #[.int .i64 x0, .int .i64 x1] 55 (0, 0)) := by rw [hwX]; exact blk_new _ _
      have hPX := blk_below hP hBX (Array.getElem?_eq_some_iff.1 hP).1
      have g0 := blk_cell hPX 0; have g1 := blk_cell hPX 1; have s0 := blk_cell hkX 0; have s1 := blk_cell hkX 1
      simp at g0 g1 s0 s1
      have hJa := abides_below hJ hJr hBX
      have HX := Lib.hid (show _ ∧ _ ∧ _ ∧ _ from ⟨e1, e2, hJa, kpO_t hKr (KpO.below own hBX)⟩)
      clear e1 e2 hx hst hJa hP hPX hkX hBX
      by_cases q : ((x0, x1) : Qt) = (p0, p1)
      · rw [decide_eq_true q] at hrun
        have N := Lib.hid (HX.out.1 q)
        clear hJr hKr q
        gi_upto_region 3 with fail
        rw [← hwX]
        clear hwX
        gi_wp2_with (with_reducible refine ⟨fun f h => (by cases h), ?_⟩)
        go_roundw
        case rel => exact ⟨k + 1, by omega, by go_num, by rw [N.out]; exact HX.out.2.2.1, HX.out.2.2.2⟩
        case measure => simp [intOf]; omega
      rw [decide_eq_false q] at hrun
      have N := Lib.hid (HX.out.2.1 q)
      clear q hJr hKr
      obtain ⟨fn, tmps, assign, bdy, hy, hR⟩ := hY pre (x0, x1) wX HX.out.2.2.1 (by omega)
      rw [hwX] at hy hR
      have HWX := Lib.hid hwX
      gi_upto_region 3 with fail
      rw [← hwX] at hy hR ⊢
      clear hwX
      gi_wp2
      refine hR.mono ?_
      clear hy hR c0 c1 g0 g1 s0 s1
      rintro e W3 (⟨rfl, hJ3, hk3⟩ | ⟨rfl, hJx3⟩)
      · gi_wp2
        go_roundw
        case rel => exact ⟨k + 1, by omega, by go_num, by rw [N.out]; exact hJ3, kpO_t HX.out.2.2.2 hk3⟩
        case measure => simp [intOf]; omega
      · gi_wp2
        refine bodyPost_ret (results_none rfl _ _ _) rfl ?_
        exact ⟨⟨_, rfl⟩, .inr ⟨pre ++ [(x0, x1)], by simp; omega, hJx3⟩⟩
    · obtain rfl : k = len := by omega
      have ES := Lib.hid (show oth A p k = A.filter (fun x => decide (x ≠ p)) from by rw [← oth_all, hlen])
      gi_wp2
      go_end0
      exact ⟨⟨_, rfl⟩, .inl ⟨_, ES.out, hJr⟩⟩
theorem others_stopsO (F : Fence) (n : Nat) (hF : F.fn 42) (hro : F.round = none) (hn : 1 ≤ n) (Bs Bp b off len cap : Nat) (a : Option Addr) (A : List Qt) (p : Qt) (own : Nat → Obj → Prop) (hlen : A.length = len) (hmx : len ≤ 9223372036854775807) (w : World)
    (hBs : w.heap[Bs]? = some (.cells #[.slice a len cap] 23 (0, 0))) (hBp : w.heap[Bp]? = some (.cells #[.int .i64 p.1, .int .i64 p.2] 55 (0, 0))) (hM : Qs w a len b off A) (hoP : ¬ own Bp (.cells #[.int .i64 p.1, .int .i64 p.2] 55 (0, 0))) (hob : 0 < len → ∀ ob, ¬ own b ob) :
    SeqStopsK F n Try.prog 42 #[.pointer (some ⟨Bs, 0, none⟩), .pointer (some ⟨Bp, 0, none⟩)] (fun x : Qt => eQ x) (KpO own) (fun ys => ys = A.filter (fun x => decide (x ≠ p))) (fun pre => pre.length ≤ len + 1) (len + 1) w := fun lp J Jx W hW hJ _ hY h0 => by
  exact others1_inO F n hF hro hn lp Bs Bp b off len cap a A p own hlen hmx J Jx W hJ hY (blk_below hBs hW (Array.getElem?_eq_some_iff.1 hBs).1) (blk_below hBp hW (Array.getElem?_eq_some_iff.1 hBp).1) (hM.grown hW) hoP hob h0

theorem others_in (F : Fence) (n : Nat) (hF : F.fn 35) (hro : F.round = none) (a : Option Addr) (len cap : Nat) (p : Qt) (w : World) :
    CallsIn F n Try.prog 35 #[.slice a len cap, vQ p] w fun e w' => e = .returned (.func (.func 42) #[] #[.pointer (some ⟨w.heap.size, 0, none⟩), .pointer (some ⟨w.heap.size + 1, 0, none⟩)]) ∧
      w' = (w.alloc (.cells #[.slice a len cap] 23)).alloc (.cells #[.int .i64 p.1, .int .i64 p.2] 55) := by
  refine callsIn_of_wp Try.func35 rfl hF ?_ hro
  simp only [Try.ntmps35, List.size_toArray, List.length_cons, List.length_nil, Nat.reduceAdd, Nat.reduceSub, Array.replicate_succ, Array.replicate_zero, List.push_toArray, List.append_toArray, List.nil_append, List.cons_append]
  gi_wp2
  go_ret
  exact ⟨by simp, by simp⟩
end Go.Proofs.Ythgbkdaimnejeaa
