/- The iterator over windows (layer 52). -/
import Derived.Test.YtgeplpigmjmfdaaSeq
import Derived.Test.YtgeplpigmjmfdaaMetWin
namespace Go.Proofs.Ytgeplpigmjmfdaa
open Go.RowKit Go.Shelf

attribute [local go_sem] Oper.semAt_some

abbrev Ix (n : Nat) := { k : Nat // k < n }
def encW (h : Nat) {n : Nat} (x : Ix n) : Array Value := #[.int .i64 ((x.1 * h : Nat) : Int)]
/-- The first k indices. -/
def firstK {n : Nat} (pre : List (Ix n)) (k : Nat) : Prop := pre.map (·.1) = List.range k
theorem firstK_len {n : Nat} {pre : List (Ix n)} {k : Nat} (h : firstK pre k) : pre.length = k := by
  have := congrArg List.length h; simpa using this

set_option maxRecDepth 100000 in
set_option maxHeartbeats 4000000 in
theorem windows1_in (F : Fence) (m : Nat) (hf : F.fn 30) (hro : F.round = none) (hm : 1 ≤ m) (lp B1 B2 B3 n s h : Nat) (hn : n ≤ 65536) (hs2 : s ≤ 65536) (hh1 : 1 ≤ h) (hh2 : h ≤ 16777216)
    (J Jx : List (Ix (cnt n s h)) → World → Prop) (W : World) (own : Nat → Prop) (o1 : ¬ own B1) (o2 : ¬ own B2) (o3 : ¬ own B3)
    (hY : ∀ pre x W1, J pre W1 → pre.length < cnt n s h → YieldAt F (m - 1) Try.prog lp (encW h x) W1 fun e W' =>
      (e = .returned (.bool true) ∧ J (pre ++ [x]) W' ∧ KpEx own W1 W') ∨ (e = .returned (.bool false) ∧ Jx (pre ++ [x]) W'))
    (h1 : W.heap[B1]? = some (.cells #[.int .i64 s] 3 (0, 0))) (h2 : W.heap[B2]? = some (.cells #[.int .i64 n] 3 (0, 0))) (h3 : W.heap[B3]? = some (.cells #[.int .i64 h] 3 (0, 0))) (h0 : J [] W) :
    CallsIn F m Try.prog 30 #[.func (.yield lp) #[] #[], .pointer (some ⟨B1, 0, none⟩), .pointer (some ⟨B2, 0, none⟩), .pointer (some ⟨B3, 0, none⟩)] W fun e W' => (∃ v, e = .returned v) ∧
      ((∃ ys, firstK ys (cnt n s h) ∧ J ys W') ∨ (∃ pre, (∃ k, k ≤ cnt n s h ∧ firstK pre k) ∧ Jx pre W')) := by
  refine callsIn_of_wp Try.func30 rfl hf ?_ hro
  simp only [Try.ntmps30, List.size_toArray, List.length_cons, List.length_nil, Nat.reduceAdd, Nat.reduceSub, Array.replicate_succ, Array.replicate_zero, List.push_toArray, List.append_toArray, List.nil_append, List.cons_append]
  gi_wp2
  gi_loopw [5] (fun i wr => ∃ (k p : Nat) (pre : List (Ix (cnt n s h))), k ≤ cnt n s h ∧ p = k * h ∧ p ≤ n + h ∧ i = .int .i64 p ∧ firstK pre k ∧ J pre wr ∧ KpEx own W wr) (fun i _ => n + 1 - (intOf i).toNat)
  case atStart => exact ⟨0, 0, [], Nat.zero_le _, by simp, by omega, rfl, rfl, h0, KpEx.refl _ _⟩
  case round =>
    obtain ⟨k, p, pre, hk, hp, hpn, rfl, hpre, hJr, hKr⟩ := hrel
    have c1 := blk_cell (hKr.same _ _ h1 rfl o1) 0
    have c2 := blk_cell (hKr.same _ _ h2 rfl o2) 0
    have c3 := blk_cell (hKr.same _ _ h3 rfl o3) 0
    simp at c1 c2 c3
    have HP := Lib.hid hp; have HK := Lib.hid hk; have HPRE := Lib.hid hpre; clear hp hk hpre
    by_cases hlt : p + s ≤ n
    · have hkc : k < cnt n s h := (cnt_lt hh1).2 (by rw [← HP.out]; exact hlt)
      obtain ⟨fn, tmps, assign, bdy, hy, hR⟩ := hY pre ⟨k, hkc⟩ wr hJr (by rw [firstK_len HPRE.out]; exact hkc)
      have E : encW h (⟨k, hkc⟩ : Ix (cnt n s h)) = #[.int .i64 ((p : Nat) : Int)] := by unfold encW; rw [HP.out]
      rw [E] at hy
      have HKC := Lib.hid hkc
      clear E
      gi_wp2
      refine hR.mono ?_
      clear hy hR
      rintro e W3 (⟨rfl, hJ3, hk3⟩ | ⟨rfl, hJx3⟩)
      · have d3 := blk_cell (hk3.same _ _ (hKr.same _ _ h3 rfl o3) rfl o3) 0
        simp at d3
        clear c1 c2 c3
        gi_wp2
        go_roundw
        case rel => exact ⟨k + 1, p + h, pre ++ [⟨k, HKC.out⟩], HKC.out, by rw [HP.out, Nat.succ_mul], by omega, by go_num, by unfold firstK; rw [List.map_append, HPRE.out, List.range_succ]; rfl, hJ3, kpEx_t hKr hk3⟩
        case measure => simp [intOf]; omega
      · gi_wp2
        refine bodyPost_ret (results_none rfl _ _ _) rfl ?_
        exact ⟨⟨_, rfl⟩, .inr ⟨pre ++ [⟨k, HKC.out⟩], ⟨k + 1, HKC.out, by unfold firstK; rw [List.map_append, HPRE.out, List.range_succ]; rfl⟩, hJx3⟩⟩
    · have hke : k = cnt n s h := by
        have g1 : ¬ k < cnt n s h := fun g => hlt (by have := (cnt_lt hh1).1 g; rwa [← HP.out] at this)
        have := HK.out
        omega
      gi_wp2
      go_end0
      exact ⟨⟨_, rfl⟩, .inl ⟨pre, hke ▸ HPRE.out, hJr⟩⟩

theorem windows_stops (F : Fence) (m : Nat) (hf : F.fn 30) (hro : F.round = none) (hm : 1 ≤ m) (B1 B2 B3 n s h : Nat) (hn : n ≤ 65536) (hs2 : s ≤ 65536) (hh1 : 1 ≤ h) (hh2 : h ≤ 16777216) (w : World)
    (own : Nat → Prop) (o1 : ¬ own B1) (o2 : ¬ own B2) (o3 : ¬ own B3)
    (h1 : w.heap[B1]? = some (.cells #[.int .i64 s] 3 (0, 0))) (h2 : w.heap[B2]? = some (.cells #[.int .i64 n] 3 (0, 0))) (h3 : w.heap[B3]? = some (.cells #[.int .i64 h] 3 (0, 0))) :
    SeqStopsK F m Try.prog 30 #[.pointer (some ⟨B1, 0, none⟩), .pointer (some ⟨B2, 0, none⟩), .pointer (some ⟨B3, 0, none⟩)] (fun x : Ix (cnt n s h) => encW h x) (KpEx own) (fun ys => firstK ys (cnt n s h)) (fun pre => ∃ k, k ≤ cnt n s h ∧ firstK pre k) (cnt n s h) w := fun lp J Jx W hW _ _ hY h0 => by
  exact windows1_in F m hf hro hm lp B1 B2 B3 n s h hn hs2 hh1 hh2 J Jx W own o1 o2 o3 hY (blk_below h1 hW (Array.getElem?_eq_some_iff.1 h1).1) (blk_below h2 hW (Array.getElem?_eq_some_iff.1 h2).1) (blk_below h3 hW (Array.getElem?_eq_some_iff.1 h3).1) h0

theorem windows_in (F : Fence) (m : Nat) (hf : F.fn 22) (hro : F.round = none) (n s h : Int) (w : World) :
    CallsIn F m Try.prog 22 #[.int .i64 n, .int .i64 s, .int .i64 h] w fun e w' => e = .returned (.func (.func 30) #[] #[.pointer (some ⟨w.heap.size + 1, 0, none⟩), .pointer (some ⟨w.heap.size, 0, none⟩), .pointer (some ⟨w.heap.size + 1 + 1, 0, none⟩)]) ∧
      w' = ((w.alloc (.cells #[.int .i64 n] 3)).alloc (.cells #[.int .i64 s] 3)).alloc (.cells #[.int .i64 h] 3) := by
  refine callsIn_of_wp Try.func22 rfl hf ?_ hro
  simp only [Try.ntmps22, List.size_toArray, List.length_cons, List.length_nil, Nat.reduceAdd, Nat.reduceSub, Array.replicate_succ, Array.replicate_zero, List.push_toArray, List.append_toArray, List.nil_append, List.cons_append]
  gi_wp2
  go_ret
  exact ⟨by simp, by simp⟩
end Go.Proofs.Ytgeplpigmjmfdaa
