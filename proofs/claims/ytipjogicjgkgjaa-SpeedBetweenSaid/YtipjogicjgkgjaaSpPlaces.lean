/- The iterator over the places of samples (layer 26). -/
import Derived.Test.YtipjogicjgkgjaaSpSample
import Derived.Test.YtipjogicjgkgjaaHeldIn
namespace Go.Proofs.Ytipjogicjgkgjaa
open Go.RowKit Go.Shelf

attribute [local go_sem] Oper.semAt_some

abbrev Ix (n : Nat) := { k : Nat // k < n }
def encP (a b : Int) {n : Nat} (x : Ix n) : Array Value := #[.int .i64 ((x.1 : Int) * a / b), .int .i64 ((x.1 : Int) * a % b)]
/-- The first k indices. -/
def firstK {n : Nat} (pre : List (Ix n)) (k : Nat) : Prop := pre.map (·.1) = List.range k
theorem firstK_len {n : Nat} {pre : List (Ix n)} {k : Nat} (h : firstK pre k) : pre.length = k := by
  have := congrArg List.length h; simpa using this

set_option maxRecDepth 100000 in
set_option maxHeartbeats 4000000 in
theorem places1_in (F : Fence) (m : Nat) (hf : F.fn 33) (hro : F.round = none) (hm : 1 ≤ m) (lp B1 B2 B3 M : Nat) (a b : Int) (hM : M ≤ 1073741824) (a1 : 1 ≤ a) (a2 : a ≤ 64) (b1 : 1 ≤ b) (b2 : b ≤ 64)
    (J Jx : List (Ix M) → World → Prop) (W : World) (own : Nat → Prop) (o2 : ¬ own B2) (o3 : ¬ own B3)
    (hY : ∀ pre x W1, J pre W1 → pre.length < M → YieldAt F (m - 1) Try.prog lp (encP a b x) W1 fun e W' =>
      (e = .returned (.bool true) ∧ J (pre ++ [x]) W' ∧ KpEx own W1 W') ∨ (e = .returned (.bool false) ∧ Jx (pre ++ [x]) W'))
    (hJd : ∀ pre W1, J pre W1 → J pre W1.drew)
    (h1 : W.heap[B1]? = some (.cells #[.int .i64 M] 3 (0, 0))) (h2 : W.heap[B2]? = some (.cells #[.int .i64 a] 3 (0, 0))) (h3 : W.heap[B3]? = some (.cells #[.int .i64 b] 3 (0, 0))) (h0 : J [] W) :
    CallsIn F m Try.prog 33 #[.func (.yield lp) #[] #[], .pointer (some ⟨B1, 0, none⟩), .pointer (some ⟨B2, 0, none⟩), .pointer (some ⟨B3, 0, none⟩)] W fun e W' => (∃ v, e = .returned v) ∧
      ((∃ ys, firstK ys M ∧ J ys W') ∨ (∃ pre, (∃ k, k ≤ M ∧ firstK pre k) ∧ Jx pre W')) := by
  refine callsIn_of_wp Try.func33 rfl hf ?_ hro
  simp only [Try.ntmps33, List.size_toArray, List.length_cons, List.length_nil, Nat.reduceAdd, Nat.reduceSub, Array.replicate_succ, Array.replicate_zero, List.push_toArray, List.append_toArray, List.nil_append, List.cons_append]
  have c1 := blk_cell h1 0
  simp at c1
  gi_wp2
  gi_loopw [7] (fun i wr => ∃ (k : Nat) (pre : List (Ix M)), k ≤ M ∧ i = .int .i64 k ∧ firstK pre k ∧ J pre wr ∧ KpEx own W wr) (fun i _ => M - (intOf i).toNat)
  case atStart => exact ⟨0, [], Nat.zero_le _, rfl, rfl, h0, KpEx.refl _ _⟩
  case round =>
    obtain ⟨k, pre, hk, rfl, hpre, hJr, hKr⟩ := hrel
    clear c1
    have k2 := hKr.same _ _ h2 rfl o2
    have k3 := hKr.same _ _ h3 rfl o3
    have c2 := blk_cell k2 0
    have c3 := blk_cell k3 0
    simp at c2 c3
    have HPRE := Lib.hid hpre; clear hpre
    by_cases hlt : k < M
    · obtain ⟨fn, tmps, assign, bdy, hy, hR⟩ := hY pre ⟨k, hlt⟩ wr.drew (hJd _ _ hJr) (by rw [firstK_len HPRE.out]; exact hlt)
      have p0 : 0 ≤ (k : Int) * a := Int.mul_nonneg (by omega) (by omega)
      have p1 : (k : Int) * a ≤ 1073741824 * 64 := Int.mul_le_mul (by omega) a2 (by omega) (by omega)
      have q0 : 0 ≤ (k : Int) * a / b := Int.ediv_nonneg p0 (by omega)
      have q1 : (k : Int) * a / b ≤ (k : Int) * a := Int.ediv_le_self b p0
      have r0 : 0 ≤ (k : Int) * a % b := Int.emod_nonneg _ (by omega)
      have r1 : (k : Int) * a % b < b := Int.emod_lt_of_pos _ (by omega)
      have zb : (b == 0) = false := by simp; omega
      have zb2 : ¬ b = 0 := by omega
      unfold encP at hy
      dsimp only at hy
      have HY := Lib.hid hy; have HRR := Lib.hid hR; clear hy hR
      have td : ((k : Int) * a).tdiv b = (k : Int) * a / b := Int.tdiv_eq_ediv_of_nonneg p0
      have tm : ((k : Int) * a).tmod b = (k : Int) * a % b := Int.tmod_eq_emod_of_nonneg p0
      have zw : IntKind.i64.wrap ((k : Int) * a) = (k : Int) * a := by rw [IntKind.wrap_i64]; omega
      have zq : IntKind.i64.wrap ((k : Int) * a / b) = (k : Int) * a / b := by rw [IntKind.wrap_i64]; omega
      gi_wp2
      refine wpIn_reads 11 (fun w' => w'.cell? ⟨B2, 0, none⟩ = some (.int .i64 a) ∧ w'.cell? ⟨B3, 0, none⟩ = some (.int .i64 b)) hro (by kernel_rfl) (by kernel_rfl) (by decide) (by kernel_rfl) (by kernel_rfl) (by kernel_rfl) ⟨c2, c3⟩ ?_
      simp only [List.take_succ_cons, List.take_zero]
      refine readsAll_cons (.func (.yield lp) #[] #[]) (by kernel_rfl) (fun w' => by kernel_rfl) ?_ ?_
      · rintro w' ⟨s2, s3⟩
        try go_simp
      refine readsAll_cons (.int .i64 (k : Int)) (by kernel_rfl) (fun w' => by kernel_rfl) ?_ ?_
      · rintro w' ⟨s2, s3⟩
        try go_simp
      refine readsAll_cons (.int .i64 a) (by kernel_rfl) (fun w' => by kernel_rfl) ?_ ?_
      · rintro w' ⟨s2, s3⟩
        try go_simp
      refine readsAll_cons (.int .i64 ((k : Int) * a)) (by kernel_rfl) (fun w' => by kernel_rfl) ?_ ?_
      · rintro w' ⟨s2, s3⟩
        try go_simp
      refine readsAll_cons (.int .i64 b) (by kernel_rfl) (fun w' => by kernel_rfl) ?_ ?_
      · rintro w' ⟨s2, s3⟩
        try go_simp
      refine readsAll_cons (.int .i64 ((k : Int) * a / b)) (by kernel_rfl) (fun w' => by kernel_rfl) ?_ ?_
      · rintro w' ⟨s2, s3⟩
        try go_simp
      refine readsAll_cons (.int .i64 (k : Int)) (by kernel_rfl) (fun w' => by kernel_rfl) ?_ ?_
      · rintro w' ⟨s2, s3⟩
        try go_simp
      refine readsAll_cons (.int .i64 a) (by kernel_rfl) (fun w' => by kernel_rfl) ?_ ?_
      · rintro w' ⟨s2, s3⟩
        try go_simp
      refine readsAll_cons (.int .i64 ((k : Int) * a)) (by kernel_rfl) (fun w' => by kernel_rfl) ?_ ?_
      · rintro w' ⟨s2, s3⟩
        try go_simp
      refine readsAll_cons (.int .i64 b) (by kernel_rfl) (fun w' => by kernel_rfl) ?_ ?_
      · rintro w' ⟨s2, s3⟩
        try go_simp
      refine readsAll_cons (.int .i64 ((k : Int) * a % b)) (by kernel_rfl) (fun w' => by kernel_rfl) ?_ ?_
      · rintro w' ⟨s2, s3⟩
        try go_simp
      refine readsAll_nil ?_
      go_simp
      refine anyIn_one (i := 11) (by kernel_rfl) rfl (by kernel_rfl) (fun K' hK' => ?_)
      have hy := HY.out
      unfold Oper.wpIn
      refine ⟨fun f hf => absurd (show (none : Option FuncId) = some f from hf) (by simp), ?_⟩
      rw [hro, Oper.semAt_none]
      go_simp
      refine HRR.out.mono ?_
      clear hy
      rintro e W3 (⟨rfl, hJ3, hk3⟩ | ⟨rfl, hJx3⟩)
      · refine hK' _ _ ?_
        clear hK' K'
        refine anyIn_one (i := 12) (by kernel_rfl) rfl (by kernel_rfl) (fun K' hK' => ?_)
        unfold Oper.wpIn
        refine ⟨fun f hf => absurd (show (none : Option FuncId) = some f from hf) (by simp), ?_⟩
        rw [hro, Oper.semAt_none]
        go_simp
        refine hK' _ _ ?_
        clear hK' K'
        refine wpAnyIn_done (by kernel_rfl) ?_ _
        refine NoPanic.normal ?_
        gi_wp2
        go_roundw
        case rel => exact ⟨k + 1, pre ++ [⟨k, hlt⟩], by omega, by go_num, by unfold firstK; rw [List.map_append, HPRE.out, List.range_succ]; rfl, hJ3, kpEx_t (kpEx_t hKr (KpEx.below own (Below.refl _ _).drew)) hk3⟩
        case measure => simp [intOf]; omega
      · refine hK' _ _ ?_
        clear hK' K'
        refine anyIn_one (i := 12) (by kernel_rfl) rfl (by kernel_rfl) (fun K' hK' => ?_)
        unfold Oper.wpIn
        refine ⟨fun f hf => absurd (show (none : Option FuncId) = some f from hf) (by simp), ?_⟩
        rw [hro, Oper.semAt_none]
        go_simp
        refine hK' _ _ ?_
        clear hK' K'
        refine wpAnyIn_done (by kernel_rfl) ?_ _
        refine NoPanic.normal ?_
        gi_wp2
        refine bodyPost_ret (results_none rfl _ _ _) rfl ?_
        exact ⟨⟨_, rfl⟩, .inr ⟨pre ++ [⟨k, hlt⟩], ⟨k + 1, by omega, by unfold firstK; rw [List.map_append, HPRE.out, List.range_succ]; rfl⟩, hJx3⟩⟩
    · obtain rfl : k = M := by omega
      gi_wp2
      go_end0
      exact ⟨⟨_, rfl⟩, .inl ⟨pre, HPRE.out, hJr⟩⟩

theorem places_stops (F : Fence) (m : Nat) (hf : F.fn 33) (hro : F.round = none) (hm : 1 ≤ m) (B1 B2 B3 M : Nat) (a b : Int) (hM : M ≤ 1073741824) (a1 : 1 ≤ a) (a2 : a ≤ 64) (b1 : 1 ≤ b) (b2 : b ≤ 64) (w : World)
    (own : Nat → Prop) (o2 : ¬ own B2) (o3 : ¬ own B3)
    (h1 : w.heap[B1]? = some (.cells #[.int .i64 M] 3 (0, 0))) (h2 : w.heap[B2]? = some (.cells #[.int .i64 a] 3 (0, 0))) (h3 : w.heap[B3]? = some (.cells #[.int .i64 b] 3 (0, 0))) :
    SeqStopsK F m Try.prog 33 #[.pointer (some ⟨B1, 0, none⟩), .pointer (some ⟨B2, 0, none⟩), .pointer (some ⟨B3, 0, none⟩)] (fun x : Ix M => encP a b x) (KpEx own) (fun ys => firstK ys M) (fun pre => ∃ k, k ≤ M ∧ firstK pre k) M w := fun lp J Jx W hW hJ _ hY h0 => by
  exact places1_in F m hf hro hm lp B1 B2 B3 M a b hM a1 a2 b1 b2 J Jx W own o2 o3 hY (fun pre W1 h => abides_below hJ h (Below.refl _ _).drew) (blk_below h1 hW (Array.getElem?_eq_some_iff.1 h1).1) (blk_below h2 hW (Array.getElem?_eq_some_iff.1 h2).1) (blk_below h3 hW (Array.getElem?_eq_some_iff.1 h3).1) h0

theorem places_any (a b M : Int) (w : World) :
    Calls Try.prog 27 #[.int .i64 a, .int .i64 b, .int .i64 M] w fun e w' => e = .returned (.func (.func 33) #[] #[.pointer (some ⟨w.heap.size + 1 + 1, 0, none⟩), .pointer (some ⟨w.heap.size, 0, none⟩), .pointer (some ⟨w.heap.size + 1, 0, none⟩)]) ∧
      w' = ((w.alloc (.cells #[.int .i64 a] 3)).alloc (.cells #[.int .i64 b] 3)).alloc (.cells #[.int .i64 M] 3) := by
  go_enter Try.func27, Try.ntmps27
  go_wp2
  go_ret
  exact ⟨by simp, by simp⟩

theorem sampler_any (a : Option Addr) (n cap : Nat) (b : Int) (w : World) :
    Calls Try.prog 25 #[.slice a n cap, .int .i64 b] w fun e w' => e = .returned (.func (.func 29) #[] #[.pointer (some ⟨w.heap.size, 0, none⟩), .pointer (some ⟨w.heap.size + 1, 0, none⟩)]) ∧
      w' = (w.alloc (.cells #[.slice a n cap] 22)).alloc (.cells #[.int .i64 b] 3) := by
  go_enter Try.func25, Try.ntmps25
  go_wp2
  go_ret
  exact ⟨by simp, by simp⟩
end Go.Proofs.Ytipjogicjgkgjaa
