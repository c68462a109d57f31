/- The knots that stay (layer 11). -/
import Derived.Test.YtafffmcmdhbghaaCrvClone
import Derived.Test.YtafffmcmdhbghaaSeq
import Derived.Test.YtafffmcmdhbghaaHeldIn
import Derived.Laws.EntriesVeiled
namespace Go.Proofs.Ytafffmcmdhbghaa
open Go.RowKit Go.Shelf

attribute [local go_sem] Oper.semAt_some

/-- Knot i is the last one at its place. -/
def stB (l : List Kt) (len i : Nat) : Bool := decide (i + 1 = len ∨ (nthK l (i + 1)).1 ≠ (nthK l i).1)
abbrev Ixs (n : Nat) := { i : Nat // i < n }
/-- The first k knots, but those that don't stay. -/
def stK (l : List Kt) {len : Nat} (pre : List (Ixs len)) (k : Nat) : Prop := pre.map (·.1) = (List.range k).filter (stB l len)
def encY (l : List Kt) {len : Nat} (x : Ixs len) : Array Value := #[.agg #[.int .i64 (nthK l x.1).1, .int .i64 (nthK l x.1).2.1, .int .i64 (nthK l x.1).2.2.1, .int .i64 (nthK l x.1).2.2.2.1, .int .i64 (nthK l x.1).2.2.2.2]]

theorem readsAll_skip {P : Program} {ops : Array Oper} {S : World → Prop} {o : Oper} {l : List Oper} {a : Act} {K : Act → Prop} (hw : Region.wanted o (yielded ops a.tmps) = false) (hc : ∀ w, o.about P w a.eval = none) (hr : readsAll P ops S K l (a.put o.dst undef)) : readsAll P ops S K (o :: l) a :=
  ⟨undef, ⟨.inr ⟨hw, rfl⟩, hc⟩, hr⟩
theorem stK_len {l : List Kt} {len : Nat} {pre : List (Ixs len)} {k : Nat} (h : stK l pre k) : pre.length ≤ k := by
  have := congrArg List.length h
  rw [List.length_map] at this
  have h2 := List.length_filter_le (stB l len) (List.range k)
  rw [List.length_range] at h2
  omega
theorem stK_yes {l : List Kt} {len : Nat} {pre : List (Ixs len)} {k : Nat} (h : stK l pre k) (hk : k < len) (hs : stB l len k = true) : stK l (pre ++ [⟨k, hk⟩]) (k + 1) := by
  unfold stK at *
  rw [List.map_append, h, List.range_succ, List.filter_append]
  simp [hs]
theorem stK_no {l : List Kt} {len : Nat} {pre : List (Ixs len)} {k : Nat} (h : stK l pre k) (hs : stB l len k = false) : stK l pre (k + 1) := by
  unfold stK at *
  rw [h, List.range_succ, List.filter_append]
  simp [hs]

theorem staying_in (n : Nat) (a : Option Addr) (len cap : Nat) (w : World) :
    CallsIn Fence.wide n Try.prog 32 #[.slice a len cap] w fun e w' => e = .returned (.func (.func 45) #[] #[.pointer (some ⟨w.heap.size, 0, none⟩)]) ∧ w' = w.alloc (.cells #[.slice a len cap] 22) := by
  refine callsIn_of_wp Try.func32 rfl trivial ?_ rfl
  simp only [Try.ntmps32, List.size_toArray, List.length_cons, List.length_nil, Nat.reduceAdd, Nat.reduceSub, Array.replicate_succ, Array.replicate_zero, List.push_toArray, List.append_toArray, List.nil_append, List.cons_append]
  gi_wp2
  go_ret
  exact ⟨rfl, rfl⟩

set_option maxRecDepth 100000 in
set_option maxHeartbeats 4000000 in
theorem staying1_in (n : Nat) (hn : 1 ≤ n) (ga : Option Addr) (lp Bs b off len cap : Nat) (l : List Kt) (own : Nat → Prop) (hlen : l.length = len) (hl : len ≤ 1024)
    (hoB : ¬ own Bs) (hob : 0 < len → ¬ own b) (J Jx : List (Ixs len) → World → Prop)
    (W : World) (hJ : AbidesFrom W.heap.size J)
    (hY : ∀ pre x W1, J pre W1 → pre.length < len → YieldAt Fence.wide (n - 1) Try.prog lp (encY l x) W1 fun e W' =>
      (e = .returned (.bool true) ∧ J (pre ++ [x]) W' ∧ KpEx own W1 W') ∨ (e = .returned (.bool false) ∧ Jx (pre ++ [x]) W'))
    (hb : 0 < len → ∃ c tb fr, W.heap[b]? = some (.cells c tb fr)) (hBs : W.heap[Bs]? = some (.cells #[.slice ga len cap] 22 (0, 0))) (hM : Ks W ga len b off l) (h0 : J [] W) :
    CallsIn Fence.wide n Try.prog 45 #[.func (.yield lp) #[] #[], .pointer (some ⟨Bs, 0, none⟩)] W fun e W' => (∃ v, e = .returned v) ∧
      ((∃ ys, stK l ys len ∧ J ys W') ∨ (∃ pre, (∃ k, k ≤ len ∧ stK l pre k) ∧ Jx pre W')) := by
  refine callsIn_of_wp Try.func45 rfl trivial ?_ rfl
  simp only [Try.ntmps45, List.size_toArray, List.length_cons, List.length_nil, Nat.reduceAdd, Nat.reduceSub, Array.replicate_succ, Array.replicate_zero, List.push_toArray, List.append_toArray, List.nil_append, List.cons_append]
  have cB := blk_cell hBs 0
  simp at cB
  gi_wp2
  gi_loopw [7] (fun i wr => ∃ (k : Nat) (pre : List (Ixs len)), k ≤ len ∧ i = .int .i64 k ∧ stK l pre k ∧ J pre wr ∧ KpEx own W wr) (fun i _ => len - (intOf i).toNat)
  case atStart => exact ⟨0, [], Nat.zero_le _, rfl, rfl, h0, KpEx.refl _ _⟩
  case round =>
    obtain ⟨k, pre, hk, rfl, hpre, hJr, hKr⟩ := hrel
    have kB := hKr.same _ _ hBs rfl hoB
    have cB := blk_cell kB 0
    simp at cB
    have hBr : Bs < wr.heap.size := (Array.getElem?_eq_some_iff.1 kB).1
    have HPRE := Lib.hid hpre; clear hpre kB
    by_cases hlt : k < len
    case neg =>
      obtain rfl : k = len := by omega
      gi_wp2
      go_end0
      exact ⟨⟨_, rfl⟩, .inl ⟨pre, HPRE.out, hJr⟩⟩
    obtain ⟨c, tb, fr, hb⟩ := hb (by omega)
    obtain ⟨rfl, _⟩ := hM.2.1 (by omega)
    have kb := hKr.same _ _ hb rfl (hob (by omega))
    have hcell : ∀ o, wr.cell? ⟨b, o, none⟩ = W.cell? ⟨b, o, none⟩ := fun o => by rw [blk_cell kb o, blk_cell hb o]
    have HCL := Lib.hid hcell; clear hcell
    have hbr : b < wr.heap.size := (Array.getElem?_eq_some_iff.1 kb).1
    clear kb
    have i2 : (k : Int) < (len : Int) := by omega
    have ul : IntKind.i64.wrap (len : Int) = (len : Int) := by rw [IntKind.wrap_i64]; omega
    obtain ⟨c0, c1, c2, c3, c4⟩ := hM.2.2 k hlt
    rw [← HCL.out] at c0 c1 c2 c3 c4
    have uk : IntKind.i64.wrap ((k : Int) + 1) = (k : Int) + 1 := by rw [IntKind.wrap_i64]; omega
    have hBX : Below wr.heap.size wr (wr.alloc (.cells #[.int .i64 (nthK l k).1, .int .i64 (nthK l k).2.1, .int .i64 (nthK l k).2.2.1, .int .i64 (nthK l k).2.2.2.1, .int .i64 (nthK l k).2.2.2.2] 43)).drew := ((Below.refl _ wr).alloc (Nat.le_refl _) _).drew
    have HKX := Lib.hid (KpEx.below own hBX)
    have hn1 : (wr.alloc (.cells #[.int .i64 (nthK l k).1, .int .i64 (nthK l k).2.1, .int .i64 (nthK l k).2.2.1, .int .i64 (nthK l k).2.2.2.1, .int .i64 (nthK l k).2.2.2.2] 43)).heap[wr.heap.size]? = some (.cells #[.int .i64 (nthK l k).1, .int .i64 (nthK l k).2.1, .int .i64 (nthK l k).2.2.1, .int .i64 (nthK l k).2.2.2.1, .int .i64 (nthK l k).2.2.2.2] 43 (0, 0)) := blk_new wr (.cells #[.int .i64 (nthK l k).1, .int .i64 (nthK l k).2.1, .int .i64 (nthK l k).2.2.1, .int .i64 (nthK l k).2.2.2.1, .int .i64 (nthK l k).2.2.2.2] 43)
    have hsz : (wr.alloc (.cells #[.int .i64 (nthK l k).1, .int .i64 (nthK l k).2.1, .int .i64 (nthK l k).2.2.1, .int .i64 (nthK l k).2.2.2.1, .int .i64 (nthK l k).2.2.2.2] 43)).heap.size = wr.heap.size + 1 := by simp
    have hgr : Below wr.heap.size wr (wr.alloc (.cells #[.int .i64 (nthK l k).1, .int .i64 (nthK l k).2.1, .int .i64 (nthK l k).2.2.1, .int .i64 (nthK l k).2.2.2.1, .int .i64 (nthK l k).2.2.2.2] 43)) := (Below.refl _ wr).alloc (Nat.le_refl _) _
    have HC : ∀ w', Below (wr.alloc (.cells #[.int .i64 (nthK l k).1, .int .i64 (nthK l k).2.1, .int .i64 (nthK l k).2.2.1, .int .i64 (nthK l k).2.2.2.1, .int .i64 (nthK l k).2.2.2.2] 43)).heap.size (wr.alloc (.cells #[.int .i64 (nthK l k).1, .int .i64 (nthK l k).2.1, .int .i64 (nthK l k).2.2.1, .int .i64 (nthK l k).2.2.2.1, .int .i64 (nthK l k).2.2.2.2] 43)) w' → w'.cell? ⟨wr.heap.size, 0, none⟩ = some (.int .i64 (nthK l k).1) ∧ w'.cell? ⟨wr.heap.size, 1, none⟩ = some (.int .i64 (nthK l k).2.1) ∧ w'.cell? ⟨wr.heap.size, 2, none⟩ = some (.int .i64 (nthK l k).2.2.1) ∧ w'.cell? ⟨wr.heap.size, 3, none⟩ = some (.int .i64 (nthK l k).2.2.2.1) ∧ w'.cell? ⟨wr.heap.size, 4, none⟩ = some (.int .i64 (nthK l k).2.2.2.2) ∧
        w'.cell? ⟨Bs, 0, none⟩ = some (.slice (some ⟨b, off, none⟩) len cap) ∧ (k + 1 < len → w'.cell? ⟨b, off + (k + 1) * 5, none⟩ = some (.int .i64 (nthK l (k + 1)).1)) := fun w' s => by
      have m1 := blk_below hn1 s (by omega)
      have hk : Below wr.heap.size wr w' := hgr.trans (s.mono (by omega))
      exact ⟨blk_cell m1 0, blk_cell m1 1, blk_cell m1 2, blk_cell m1 3, blk_cell m1 4, (hk.cell (p := ⟨Bs, 0, none⟩) hBr).trans cB, fun h1 => (hk.cell (p := ⟨b, _, none⟩) hbr).trans ((HCL.out _).trans (hM.2.2 (k + 1) h1).1)⟩
    clear hn1 hsz hgr
    by_cases hlast : k + 1 = len
    · have HST := Lib.hid (show stB l len k = true by unfold stB; simp [hlast])
      have z1 : ((k : Int) + 1 == (len : Int)) = true := by simp; omega
      have z2 : (k : Int) + 1 = (len : Int) := by omega
      obtain ⟨fn, tmps, assign, bdy, hy, hR⟩ := hY pre ⟨k, hlt⟩ (wr.alloc (.cells #[.int .i64 (nthK l k).1, .int .i64 (nthK l k).2.1, .int .i64 (nthK l k).2.2.1, .int .i64 (nthK l k).2.2.2.1, .int .i64 (nthK l k).2.2.2.2] 43)).drew (abides_below hJ hJr hBX) (by have := stK_len HPRE.out; omega)
      unfold encY at hy
      dsimp only at hy
      have HY1 := Lib.hid hy; have HRR := Lib.hid hR; clear hy hR
      gi_wp2
      generalize hWX : wr.alloc (.cells #[.int .i64 (nthK l k).1, .int .i64 (nthK l k).2.1, .int .i64 (nthK l k).2.2.1, .int .i64 (nthK l k).2.2.2.1, .int .i64 (nthK l k).2.2.2.2] 43) = WX at *
      refine wpIn_reads 19 (fun w' => Below WX.heap.size WX w') rfl (by kernel_rfl) (by kernel_rfl) (by decide) (by kernel_rfl) (by kernel_rfl) (by kernel_rfl) (Below.refl _ _).drew ?_
      simp only [List.take_succ_cons, List.take_zero]
      refine readsAll_cons (.int .i64 (k : Int)) (by kernel_rfl) (fun w' => by kernel_rfl) ?_ ?_
      · intro w' s
        obtain ⟨x0, x1, x2, x3, x4, y0, y1⟩ := HC w' s
        try go_simp
        try (first | omega | (intro h; exfalso; omega))
      refine readsAll_cons (.int .i64 ((k : Int) + 1)) (by kernel_rfl) (fun w' => by kernel_rfl) ?_ ?_
      · intro w' s
        obtain ⟨x0, x1, x2, x3, x4, y0, y1⟩ := HC w' s
        try go_simp
        try (first | omega | (intro h; exfalso; omega))
      refine readsAll_cons (.slice (some ⟨b, off, none⟩) len cap) (by kernel_rfl) (fun w' => by kernel_rfl) ?_ ?_
      · intro w' s
        obtain ⟨x0, x1, x2, x3, x4, y0, y1⟩ := HC w' s
        try go_simp
        try (first | omega | (intro h; exfalso; omega))
      refine readsAll_cons (.int .i64 (len : Int)) (by kernel_rfl) (fun w' => by kernel_rfl) ?_ ?_
      · intro w' s
        obtain ⟨x0, x1, x2, x3, x4, y0, y1⟩ := HC w' s
        try go_simp
        try (first | omega | (intro h; exfalso; omega))
      refine readsAll_cons (.bool true) (by kernel_rfl) (fun w' => by kernel_rfl) ?_ ?_
      · intro w' s
        obtain ⟨x0, x1, x2, x3, x4, y0, y1⟩ := HC w' s
        try go_simp
        try (first | omega | (intro h; exfalso; omega))
      refine readsAll_cons (.bool true) (by kernel_rfl) (fun w' => by kernel_rfl) ?_ ?_
      · intro w' s
        obtain ⟨x0, x1, x2, x3, x4, y0, y1⟩ := HC w' s
        try go_simp
        try (first | omega | (intro h; exfalso; omega))
      refine readsAll_skip (by kernel_rfl) (fun w' => by kernel_rfl) ?_
      refine readsAll_skip (by kernel_rfl) (fun w' => by kernel_rfl) ?_
      refine readsAll_skip (by kernel_rfl) (fun w' => by kernel_rfl) ?_
      refine readsAll_skip (by kernel_rfl) (fun w' => by kernel_rfl) ?_
      refine readsAll_skip (by kernel_rfl) (fun w' => by kernel_rfl) ?_
      refine readsAll_skip (by kernel_rfl) (fun w' => by kernel_rfl) ?_
      refine readsAll_skip (by kernel_rfl) (fun w' => by kernel_rfl) ?_
      refine readsAll_skip (by kernel_rfl) (fun w' => by kernel_rfl) ?_
      refine readsAll_skip (by kernel_rfl) (fun w' => by kernel_rfl) ?_
      refine readsAll_cons (.bool true) (by kernel_rfl) (fun w' => by kernel_rfl) ?_ ?_
      · intro w' s
        obtain ⟨x0, x1, x2, x3, x4, y0, y1⟩ := HC w' s
        try go_simp
        try (first | omega | (intro h; exfalso; omega))
      refine readsAll_cons (.bool true) (by kernel_rfl) (fun w' => by kernel_rfl) ?_ ?_
      · intro w' s
        obtain ⟨x0, x1, x2, x3, x4, y0, y1⟩ := HC w' s
        try go_simp
        try (first | omega | (intro h; exfalso; omega))
      refine readsAll_cons (.func (.yield lp) #[] #[]) (by kernel_rfl) (fun w' => by kernel_rfl) ?_ ?_
      · intro w' s
        obtain ⟨x0, x1, x2, x3, x4, y0, y1⟩ := HC w' s
        try go_simp
        try (first | omega | (intro h; exfalso; omega))
      refine readsAll_cons (.agg #[.int .i64 (nthK l k).1, .int .i64 (nthK l k).2.1, .int .i64 (nthK l k).2.2.1, .int .i64 (nthK l k).2.2.2.1, .int .i64 (nthK l k).2.2.2.2]) (by kernel_rfl) (fun w' => by kernel_rfl) ?_ ?_
      · intro w' s
        obtain ⟨x0, x1, x2, x3, x4, y0, y1⟩ := HC w' s
        try go_simp
        try (first | omega | (intro h; exfalso; omega))
      refine readsAll_nil ?_
      go_simp
      refine anyIn_one (i := 19) (by kernel_rfl) rfl (by kernel_rfl) (fun K' hK' => ?_)
      have hy := HY1.out
      unfold Oper.wpIn
      refine ⟨fun f hf => absurd (show (none : Option FuncId) = some f from hf) (by simp), ?_⟩
      rw [show Fence.wide.round = none from rfl, Oper.semAt_none]
      go_simp
      refine HRR.out.mono ?_
      clear hy
      rintro e W3 (⟨rfl, hJ3, hk3⟩ | ⟨rfl, hJx3⟩)
      · refine hK' _ _ ?_
        clear hK' K'
        refine anyIn_one (i := 20) (by kernel_rfl) rfl (by kernel_rfl) (fun K' hK' => ?_)
        unfold Oper.wpIn
        refine ⟨fun f hf => absurd (show (none : Option FuncId) = some f from hf) (by simp), ?_⟩
        rw [show Fence.wide.round = none from rfl, Oper.semAt_none]
        go_simp
        refine hK' _ _ ?_
        clear hK' K'
        refine anyIn_one (i := 21) (by kernel_rfl) rfl (by kernel_rfl) (fun K' hK' => ?_)
        unfold Oper.wpIn
        refine ⟨fun f hf => absurd (show (none : Option FuncId) = some f from hf) (by simp), ?_⟩
        rw [show Fence.wide.round = none from rfl, Oper.semAt_none]
        go_simp
        refine hK' _ _ ?_
        clear hK' K'
        refine wpAnyIn_done (by kernel_rfl) ?_ _
        refine NoPanic.normal ?_
        gi_wp2
        go_roundw
        case rel => exact ⟨k + 1, pre ++ [⟨k, hlt⟩], by omega, by go_num, stK_yes HPRE.out hlt HST.out, hJ3, kpEx_t (kpEx_t hKr HKX.out) hk3⟩
        case measure => simp [intOf] <;> omega
      · refine hK' _ _ ?_
        clear hK' K'
        refine anyIn_one (i := 20) (by kernel_rfl) rfl (by kernel_rfl) (fun K' hK' => ?_)
        unfold Oper.wpIn
        refine ⟨fun f hf => absurd (show (none : Option FuncId) = some f from hf) (by simp), ?_⟩
        rw [show Fence.wide.round = none from rfl, Oper.semAt_none]
        go_simp
        refine hK' _ _ ?_
        clear hK' K'
        refine anyIn_one (i := 21) (by kernel_rfl) rfl (by kernel_rfl) (fun K' hK' => ?_)
        unfold Oper.wpIn
        refine ⟨fun f hf => absurd (show (none : Option FuncId) = some f from hf) (by simp), ?_⟩
        rw [show Fence.wide.round = none from rfl, Oper.semAt_none]
        go_simp
        refine hK' _ _ ?_
        clear hK' K'
        refine wpAnyIn_done (by kernel_rfl) ?_ _
        refine NoPanic.normal ?_
        gi_wp2
        refine bodyPost_ret (results_none rfl _ _ _) rfl ?_
        exact ⟨⟨_, rfl⟩, .inr ⟨pre ++ [⟨k, hlt⟩], ⟨k + 1, by omega, stK_yes HPRE.out hlt HST.out⟩, hJx3⟩⟩
    have z1 : ((k : Int) + 1 == (len : Int)) = false := by simp; omega
    have z2 : ¬ (k : Int) + 1 = (len : Int) := by omega
    have i3 : (k : Int) + 1 < (len : Int) := by omega
    have i4 : k + 1 < len := by omega
    replace HC := fun w' s => (fun x => And.intro x.1 (And.intro x.2.1 (And.intro x.2.2.1 (And.intro x.2.2.2.1 (And.intro x.2.2.2.2.1 (And.intro x.2.2.2.2.2.1 (x.2.2.2.2.2.2 i4))))))) (HC w' s)
    by_cases hne : (nthK l (k + 1)).1 = (nthK l k).1
    · have HST := Lib.hid (show stB l len k = false by unfold stB; simp [hne]; omega)
      have z3 : ((nthK l (k + 1)).1 != (nthK l k).1) = false := by simp [hne]
      gi_wp2
      generalize hWX : wr.alloc (.cells #[.int .i64 (nthK l k).1, .int .i64 (nthK l k).2.1, .int .i64 (nthK l k).2.2.1, .int .i64 (nthK l k).2.2.2.1, .int .i64 (nthK l k).2.2.2.2] 43) = WX at *
      refine wpIn_reads 22 (fun w' => Below WX.heap.size WX w') rfl (by kernel_rfl) (by kernel_rfl) (by decide) (by kernel_rfl) (by kernel_rfl) (by kernel_rfl) (Below.refl _ _).drew ?_
      simp only [List.take_succ_cons, List.take_zero]
      refine readsAll_cons (.int .i64 (k : Int)) (by kernel_rfl) (fun w' => by kernel_rfl) ?_ ?_
      · intro w' s
        obtain ⟨x0, x1, x2, x3, x4, y0, y1⟩ := HC w' s
        try go_simp
        try (first | omega | (intro h; exfalso; omega))
      refine readsAll_cons (.int .i64 ((k : Int) + 1)) (by kernel_rfl) (fun w' => by kernel_rfl) ?_ ?_
      · intro w' s
        obtain ⟨x0, x1, x2, x3, x4, y0, y1⟩ := HC w' s
        try go_simp
        try (first | omega | (intro h; exfalso; omega))
      refine readsAll_cons (.slice (some ⟨b, off, none⟩) len cap) (by kernel_rfl) (fun w' => by kernel_rfl) ?_ ?_
      · intro w' s
        obtain ⟨x0, x1, x2, x3, x4, y0, y1⟩ := HC w' s
        try go_simp
        try (first | omega | (intro h; exfalso; omega))
      refine readsAll_cons (.int .i64 (len : Int)) (by kernel_rfl) (fun w' => by kernel_rfl) ?_ ?_
      · intro w' s
        obtain ⟨x0, x1, x2, x3, x4, y0, y1⟩ := HC w' s
        try go_simp
        try (first | omega | (intro h; exfalso; omega))
      refine readsAll_cons (.bool false) (by kernel_rfl) (fun w' => by kernel_rfl) ?_ ?_
      · intro w' s
        obtain ⟨x0, x1, x2, x3, x4, y0, y1⟩ := HC w' s
        try go_simp
        try (first | omega | (intro h; exfalso; omega))
      refine readsAll_cons (.bool false) (by kernel_rfl) (fun w' => by kernel_rfl) ?_ ?_
      · intro w' s
        obtain ⟨x0, x1, x2, x3, x4, y0, y1⟩ := HC w' s
        try go_simp
        try (first | omega | (intro h; exfalso; omega))
      refine readsAll_cons (.slice (some ⟨b, off, none⟩) len cap) (by kernel_rfl) (fun w' => by kernel_rfl) ?_ ?_
      · intro w' s
        obtain ⟨x0, x1, x2, x3, x4, y0, y1⟩ := HC w' s
        try go_simp
        try (first | omega | (intro h; exfalso; omega))
      refine readsAll_cons (.int .i64 (k : Int)) (by kernel_rfl) (fun w' => by kernel_rfl) ?_ ?_
      · intro w' s
        obtain ⟨x0, x1, x2, x3, x4, y0, y1⟩ := HC w' s
        try go_simp
        try (first | omega | (intro h; exfalso; omega))
      refine readsAll_cons (.int .i64 ((k : Int) + 1)) (by kernel_rfl) (fun w' => by kernel_rfl) ?_ ?_
      · intro w' s
        obtain ⟨x0, x1, x2, x3, x4, y0, y1⟩ := HC w' s
        try go_simp
        try (first | omega | (intro h; exfalso; omega))
      refine readsAll_cons (.pointer (some ⟨b, off + (k + 1) * 5, none⟩)) (by kernel_rfl) (fun w' => by kernel_rfl) ?_ ?_
      · intro w' s
        obtain ⟨x0, x1, x2, x3, x4, y0, y1⟩ := HC w' s
        try go_simp
        try (first | omega | (intro h; exfalso; omega))
      refine readsAll_cons (.pointer (some ⟨b, off + (k + 1) * 5, none⟩)) (by kernel_rfl) (fun w' => by kernel_rfl) ?_ ?_
      · intro w' s
        obtain ⟨x0, x1, x2, x3, x4, y0, y1⟩ := HC w' s
        try go_simp
        try (first | omega | (intro h; exfalso; omega))
      refine readsAll_cons (.int .i64 (nthK l (k + 1)).1) (by kernel_rfl) (fun w' => by kernel_rfl) ?_ ?_
      · intro w' s
        obtain ⟨x0, x1, x2, x3, x4, y0, y1⟩ := HC w' s
        try go_simp
        try (first | omega | (intro h; exfalso; omega))
      refine readsAll_cons (.pointer (some ⟨wr.heap.size, 0, none⟩)) (by kernel_rfl) (fun w' => by kernel_rfl) ?_ ?_
      · intro w' s
        obtain ⟨x0, x1, x2, x3, x4, y0, y1⟩ := HC w' s
        try go_simp
        try (first | omega | (intro h; exfalso; omega))
      refine readsAll_cons (.int .i64 (nthK l k).1) (by kernel_rfl) (fun w' => by kernel_rfl) ?_ ?_
      · intro w' s
        obtain ⟨x0, x1, x2, x3, x4, y0, y1⟩ := HC w' s
        try go_simp
        try (first | omega | (intro h; exfalso; omega))
      refine readsAll_cons (.bool false) (by kernel_rfl) (fun w' => by kernel_rfl) ?_ ?_
      · intro w' s
        obtain ⟨x0, x1, x2, x3, x4, y0, y1⟩ := HC w' s
        try go_simp
        try (first | omega | (intro h; exfalso; omega))
      refine readsAll_cons (.bool false) (by kernel_rfl) (fun w' => by kernel_rfl) ?_ ?_
      · intro w' s
        obtain ⟨x0, x1, x2, x3, x4, y0, y1⟩ := HC w' s
        try go_simp
        try (first | omega | (intro h; exfalso; omega))
      refine readsAll_cons (.bool false) (by kernel_rfl) (fun w' => by kernel_rfl) ?_ ?_
      · intro w' s
        obtain ⟨x0, x1, x2, x3, x4, y0, y1⟩ := HC w' s
        try go_simp
        try (first | omega | (intro h; exfalso; omega))
      refine readsAll_skip (by kernel_rfl) (fun w' => by kernel_rfl) ?_
      refine readsAll_skip (by kernel_rfl) (fun w' => by kernel_rfl) ?_
      refine readsAll_skip (by kernel_rfl) (fun w' => by kernel_rfl) ?_
      refine readsAll_skip (by kernel_rfl) (fun w' => by kernel_rfl) ?_
      refine readsAll_cons (.bool false) (by kernel_rfl) (fun w' => by kernel_rfl) ?_ ?_
      · intro w' s
        obtain ⟨x0, x1, x2, x3, x4, y0, y1⟩ := HC w' s
        try go_simp
        try (first | omega | (intro h; exfalso; omega))
      refine readsAll_nil ?_
      go_simp
      refine wpAnyIn_done (by kernel_rfl) ?_ _
      refine NoPanic.normal ?_
      gi_wp2
      go_roundw
      case rel => exact ⟨k + 1, pre, by omega, by go_num, stK_no HPRE.out HST.out, abides_below hJ hJr hBX, kpEx_t hKr HKX.out⟩
      case measure => simp [intOf] <;> omega
    · have HST := Lib.hid (show stB l len k = true by unfold stB; simp [hne])
      have z3 : ((nthK l (k + 1)).1 != (nthK l k).1) = true := by simp [hne]
      obtain ⟨fn, tmps, assign, bdy, hy, hR⟩ := hY pre ⟨k, hlt⟩ (wr.alloc (.cells #[.int .i64 (nthK l k).1, .int .i64 (nthK l k).2.1, .int .i64 (nthK l k).2.2.1, .int .i64 (nthK l k).2.2.2.1, .int .i64 (nthK l k).2.2.2.2] 43)).drew (abides_below hJ hJr hBX) (by have := stK_len HPRE.out; omega)
      unfold encY at hy
      dsimp only at hy
      have HY1 := Lib.hid hy; have HRR := Lib.hid hR; clear hy hR
      gi_wp2
      generalize hWX : wr.alloc (.cells #[.int .i64 (nthK l k).1, .int .i64 (nthK l k).2.1, .int .i64 (nthK l k).2.2.1, .int .i64 (nthK l k).2.2.2.1, .int .i64 (nthK l k).2.2.2.2] 43) = WX at *
      refine wpIn_reads 19 (fun w' => Below WX.heap.size WX w') rfl (by kernel_rfl) (by kernel_rfl) (by decide) (by kernel_rfl) (by kernel_rfl) (by kernel_rfl) (Below.refl _ _).drew ?_
      simp only [List.take_succ_cons, List.take_zero]
      refine readsAll_cons (.int .i64 (k : Int)) (by kernel_rfl) (fun w' => by kernel_rfl) ?_ ?_
      · intro w' s
        obtain ⟨x0, x1, x2, x3, x4, y0, y1⟩ := HC w' s
        try go_simp
        try (first | omega | (intro h; exfalso; omega))
      refine readsAll_cons (.int .i64 ((k : Int) + 1)) (by kernel_rfl) (fun w' => by kernel_rfl) ?_ ?_
      · intro w' s
        obtain ⟨x0, x1, x2, x3, x4, y0, y1⟩ := HC w' s
        try go_simp
        try (first | omega | (intro h; exfalso; omega))
      refine readsAll_cons (.slice (some ⟨b, off, none⟩) len cap) (by kernel_rfl) (fun w' => by kernel_rfl) ?_ ?_
      · intro w' s
        obtain ⟨x0, x1, x2, x3, x4, y0, y1⟩ := HC w' s
        try go_simp
        try (first | omega | (intro h; exfalso; omega))
      refine readsAll_cons (.int .i64 (len : Int)) (by kernel_rfl) (fun w' => by kernel_rfl) ?_ ?_
      · intro w' s
        obtain ⟨x0, x1, x2, x3, x4, y0, y1⟩ := HC w' s
        try go_simp
        try (first | omega | (intro h; exfalso; omega))
      refine readsAll_cons (.bool false) (by kernel_rfl) (fun w' => by kernel_rfl) ?_ ?_
      · intro w' s
        obtain ⟨x0, x1, x2, x3, x4, y0, y1⟩ := HC w' s
        try go_simp
        try (first | omega | (intro h; exfalso; omega))
      refine readsAll_cons (.bool false) (by kernel_rfl) (fun w' => by kernel_rfl) ?_ ?_
      · intro w' s
        obtain ⟨x0, x1, x2, x3, x4, y0, y1⟩ := HC w' s
        try go_simp
        try (first | omega | (intro h; exfalso; omega))
      refine readsAll_cons (.slice (some ⟨b, off, none⟩) len cap) (by kernel_rfl) (fun w' => by kernel_rfl) ?_ ?_
      · intro w' s
        obtain ⟨x0, x1, x2, x3, x4, y0, y1⟩ := HC w' s
        try go_simp
        try (first | omega | (intro h; exfalso; omega))
      refine readsAll_cons (.int .i64 (k : Int)) (by kernel_rfl) (fun w' => by kernel_rfl) ?_ ?_
      · intro w' s
        obtain ⟨x0, x1, x2, x3, x4, y0, y1⟩ := HC w' s
        try go_simp
        try (first | omega | (intro h; exfalso; omega))
      refine readsAll_cons (.int .i64 ((k : Int) + 1)) (by kernel_rfl) (fun w' => by kernel_rfl) ?_ ?_
      · intro w' s
        obtain ⟨x0, x1, x2, x3, x4, y0, y1⟩ := HC w' s
        try go_simp
        try (first | omega | (intro h; exfalso; omega))
      refine readsAll_cons (.pointer (some ⟨b, off + (k + 1) * 5, none⟩)) (by kernel_rfl) (fun w' => by kernel_rfl) ?_ ?_
      · intro w' s
        obtain ⟨x0, x1, x2, x3, x4, y0, y1⟩ := HC w' s
        try go_simp
        try (first | omega | (intro h; exfalso; omega))
      refine readsAll_cons (.pointer (some ⟨b, off + (k + 1) * 5, none⟩)) (by kernel_rfl) (fun w' => by kernel_rfl) ?_ ?_
      · intro w' s
        obtain ⟨x0, x1, x2, x3, x4, y0, y1⟩ := HC w' s
        try go_simp
        try (first | omega | (intro h; exfalso; omega))
      refine readsAll_cons (.int .i64 (nthK l (k + 1)).1) (by kernel_rfl) (fun w' => by kernel_rfl) ?_ ?_
      · intro w' s
        obtain ⟨x0, x1, x2, x3, x4, y0, y1⟩ := HC w' s
        try go_simp
        try (first | omega | (intro h; exfalso; omega))
      refine readsAll_cons (.pointer (some ⟨wr.heap.size, 0, none⟩)) (by kernel_rfl) (fun w' => by kernel_rfl) ?_ ?_
      · intro w' s
        obtain ⟨x0, x1, x2, x3, x4, y0, y1⟩ := HC w' s
        try go_simp
        try (first | omega | (intro h; exfalso; omega))
      refine readsAll_cons (.int .i64 (nthK l k).1) (by kernel_rfl) (fun w' => by kernel_rfl) ?_ ?_
      · intro w' s
        obtain ⟨x0, x1, x2, x3, x4, y0, y1⟩ := HC w' s
        try go_simp
        try (first | omega | (intro h; exfalso; omega))
      refine readsAll_cons (.bool true) (by kernel_rfl) (fun w' => by kernel_rfl) ?_ ?_
      · intro w' s
        obtain ⟨x0, x1, x2, x3, x4, y0, y1⟩ := HC w' s
        try go_simp
        try (first | omega | (intro h; exfalso; omega))
      refine readsAll_cons (.bool true) (by kernel_rfl) (fun w' => by kernel_rfl) ?_ ?_
      · intro w' s
        obtain ⟨x0, x1, x2, x3, x4, y0, y1⟩ := HC w' s
        try go_simp
        try (first | omega | (intro h; exfalso; omega))
      refine readsAll_cons (.bool true) (by kernel_rfl) (fun w' => by kernel_rfl) ?_ ?_
      · intro w' s
        obtain ⟨x0, x1, x2, x3, x4, y0, y1⟩ := HC w' s
        try go_simp
        try (first | omega | (intro h; exfalso; omega))
      refine readsAll_cons (.func (.yield lp) #[] #[]) (by kernel_rfl) (fun w' => by kernel_rfl) ?_ ?_
      · intro w' s
        obtain ⟨x0, x1, x2, x3, x4, y0, y1⟩ := HC w' s
        try go_simp
        try (first | omega | (intro h; exfalso; omega))
      refine readsAll_cons (.agg #[.int .i64 (nthK l k).1, .int .i64 (nthK l k).2.1, .int .i64 (nthK l k).2.2.1, .int .i64 (nthK l k).2.2.2.1, .int .i64 (nthK l k).2.2.2.2]) (by kernel_rfl) (fun w' => by kernel_rfl) ?_ ?_
      · intro w' s
        obtain ⟨x0, x1, x2, x3, x4, y0, y1⟩ := HC w' s
        try go_simp
        try (first | omega | (intro h; exfalso; omega))
      refine readsAll_nil ?_
      go_simp
      refine anyIn_one (i := 19) (by kernel_rfl) rfl (by kernel_rfl) (fun K' hK' => ?_)
      have hy := HY1.out
      unfold Oper.wpIn
      refine ⟨fun f hf => absurd (show (none : Option FuncId) = some f from hf) (by simp), ?_⟩
      rw [show Fence.wide.round = none from rfl, Oper.semAt_none]
      go_simp
      refine HRR.out.mono ?_
      clear hy
      rintro e W3 (⟨rfl, hJ3, hk3⟩ | ⟨rfl, hJx3⟩)
      · refine hK' _ _ ?_
        clear hK' K'
        refine anyIn_one (i := 20) (by kernel_rfl) rfl (by kernel_rfl) (fun K' hK' => ?_)
        unfold Oper.wpIn
        refine ⟨fun f hf => absurd (show (none : Option FuncId) = some f from hf) (by simp), ?_⟩
        rw [show Fence.wide.round = none from rfl, Oper.semAt_none]
        go_simp
        refine hK' _ _ ?_
        clear hK' K'
        refine anyIn_one (i := 21) (by kernel_rfl) rfl (by kernel_rfl) (fun K' hK' => ?_)
        unfold Oper.wpIn
        refine ⟨fun f hf => absurd (show (none : Option FuncId) = some f from hf) (by simp), ?_⟩
        rw [show Fence.wide.round = none from rfl, Oper.semAt_none]
        go_simp
        refine hK' _ _ ?_
        clear hK' K'
        refine wpAnyIn_done (by kernel_rfl) ?_ _
        refine NoPanic.normal ?_
        gi_wp2
        go_roundw
        case rel => exact ⟨k + 1, pre ++ [⟨k, hlt⟩], by omega, by go_num, stK_yes HPRE.out hlt HST.out, hJ3, kpEx_t (kpEx_t hKr HKX.out) hk3⟩
        case measure => simp [intOf] <;> omega
      · refine hK' _ _ ?_
        clear hK' K'
        refine anyIn_one (i := 20) (by kernel_rfl) rfl (by kernel_rfl) (fun K' hK' => ?_)
        unfold Oper.wpIn
        refine ⟨fun f hf => absurd (show (none : Option FuncId) = some f from hf) (by simp), ?_⟩
        rw [show Fence.wide.round = none from rfl, Oper.semAt_none]
        go_simp
        refine hK' _ _ ?_
        clear hK' K'
        refine anyIn_one (i := 21) (by kernel_rfl) rfl (by kernel_rfl) (fun K' hK' => ?_)
        unfold Oper.wpIn
        refine ⟨fun f hf => absurd (show (none : Option FuncId) = some f from hf) (by simp), ?_⟩
        rw [show Fence.wide.round = none from rfl, Oper.semAt_none]
        go_simp
        refine hK' _ _ ?_
        clear hK' K'
        refine wpAnyIn_done (by kernel_rfl) ?_ _
        refine NoPanic.normal ?_
        gi_wp2
        refine bodyPost_ret (results_none rfl _ _ _) rfl ?_
        exact ⟨⟨_, rfl⟩, .inr ⟨pre ++ [⟨k, hlt⟩], ⟨k + 1, by omega, stK_yes HPRE.out hlt HST.out⟩, hJx3⟩⟩

theorem staying_stops (n : Nat) (hn : 1 ≤ n) (ga : Option Addr) (Bs b off len cap : Nat) (l : List Kt) (own : Nat → Prop) (hlen : l.length = len) (hl : len ≤ 1024) (w : World)
    (hoB : ¬ own Bs) (hob : 0 < len → ¬ own b) (hb : 0 < len → ∃ c tb fr, w.heap[b]? = some (.cells c tb fr)) (hBs : w.heap[Bs]? = some (.cells #[.slice ga len cap] 22 (0, 0))) (hM : Ks w ga len b off l) :
    SeqStopsK Fence.wide n Try.prog 45 #[.pointer (some ⟨Bs, 0, none⟩)] (fun x : Ixs len => encY l x) (KpEx own) (fun ys => stK l ys len) (fun pre => ∃ k, k ≤ len ∧ stK l pre k) len w := fun lp J Jx W hW hJ hJx hY h0 => by
  have kB := blk_below hBs hW (Array.getElem?_eq_some_iff.1 hBs).1
  exact staying1_in n hn ga lp Bs b off len cap l own hlen hl hoB hob J Jx W hJ hY (fun h => by
    obtain ⟨c, tb, fr, h1⟩ := hb h
    exact ⟨c, tb, fr, blk_below h1 hW (Array.getElem?_eq_some_iff.1 h1).1⟩) kB (hM.grown hW) h0
end Go.Proofs.Ytafffmcmdhbghaa
