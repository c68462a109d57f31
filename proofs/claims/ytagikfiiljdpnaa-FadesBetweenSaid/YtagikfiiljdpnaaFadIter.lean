/- The iterator over the gains of a fade (layer 27). -/
import Derived.Test.YtagikfiiljdpnaaFadGain
import Derived.Test.YtagikfiiljdpnaaHeldIn
namespace Go.Proofs.Ytagikfiiljdpnaa
open Go.RowKit Go.Shelf

attribute [local go_sem] Oper.semAt_some

abbrev Ix (n : Nat) := { k : Nat // k < n }
def encG (m : Nat) {n : Nat} (x : Ix n) : Array Value := #[.int .i64 x.1, .int .i64 (gainV x.1 m)]
/-- The first k indices. -/
def firstK {n : Nat} (pre : List (Ix n)) (k : Nat) : Prop := pre.map (·.1) = List.range k
theorem firstK_len {n : Nat} {pre : List (Ix n)} {k : Nat} (h : firstK pre k) : pre.length = k := by
  have := congrArg List.length h; simpa using this

set_option maxRecDepth 100000 in
set_option maxHeartbeats 4000000 in
theorem gains1_in (m : Nat) (hm : 2 ≤ m) (lp B1 M : Nat) (hM : M ≤ 16777216)
    (J Jx : List (Ix M) → World → Prop) (W : World) (own : Nat → Prop) (o1 : ¬ own B1)
    (hY : ∀ pre x W1, J pre W1 → pre.length < M → YieldAt Fence.wide (m - 1) Try.prog lp (encG M x) W1 fun e W' =>
      (e = .returned (.bool true) ∧ J (pre ++ [x]) W' ∧ KpEx own W1 W') ∨ (e = .returned (.bool false) ∧ Jx (pre ++ [x]) W'))
    (h1 : W.heap[B1]? = some (.cells #[.int .i64 M] 3 (0, 0))) (h0 : J [] W) :
    CallsIn Fence.wide m Try.prog 44 #[.func (.yield lp) #[] #[], .pointer (some ⟨B1, 0, none⟩)] W fun e W' => (∃ v, e = .returned v) ∧
      ((∃ ys, firstK ys M ∧ J ys W') ∨ (∃ pre, (∃ k, k ≤ M ∧ firstK pre k) ∧ Jx pre W')) := by
  have hro : Fence.wide.round = none := rfl
  refine callsIn_of_wp Try.func44 rfl trivial ?_ hro
  simp only [Try.ntmps44, List.size_toArray, List.length_cons, List.length_nil, Nat.reduceAdd, Nat.reduceSub, Array.replicate_succ, Array.replicate_zero, List.push_toArray, List.append_toArray, List.nil_append, List.cons_append]
  have c1 := blk_cell h1 0
  simp at c1
  gi_wp2
  gi_loopw [5] (fun i wr => ∃ (k : Nat) (pre : List (Ix M)), k ≤ M ∧ i = .int .i64 k ∧ firstK pre k ∧ J pre wr ∧ KpEx own W wr) (fun i _ => M - (intOf i).toNat)
  case atStart => exact ⟨0, [], Nat.zero_le _, rfl, rfl, h0, KpEx.refl _ _⟩
  case round =>
    obtain ⟨k, pre, hk, rfl, hpre, hJr, hKr⟩ := hrel
    have c2 := blk_cell (hKr.same _ _ h1 rfl o1) 0
    simp at c2
    have HPRE := Lib.hid hpre; clear hpre
    by_cases hlt : k < M
    · obtain ⟨fn, tmps, assign, bdy, hy, hR⟩ := hY pre ⟨k, hlt⟩ wr hJr (by rw [firstK_len HPRE.out]; exact hlt)
      unfold encG at hy
      dsimp only at hy
      have HG := Lib.hid (show (0 : Int) ≤ (k : Int) ∧ (k : Int) < (M : Int) ∧ (M : Int) ≤ 16777216 from ⟨by omega, by omega, by omega⟩)
      gi_wp2
      refine ⟨trivial, fun _ => by omega, ?_⟩
      refine (callsIn_wide.2 (gain_any _ _ _ HG.out.1 HG.out.2.1 HG.out.2.2)).mono ?_; rintro e w' ⟨rfl, rfl⟩
      gi_wp2
      refine ⟨fun _ => by omega, hR.mono ?_⟩
      clear hy hR
      rintro e W3 (⟨rfl, hJ3, hk3⟩ | ⟨rfl, hJx3⟩)
      · gi_wp2
        go_roundw
        case rel => exact ⟨k + 1, pre ++ [⟨k, hlt⟩], by omega, by go_num, by unfold firstK; rw [List.map_append, HPRE.out, List.range_succ]; rfl, hJ3, kpEx_t hKr hk3⟩
        case measure => simp [intOf]; omega
      · gi_wp2
        refine bodyPost_ret (results_none rfl _ _ _) rfl ?_
        exact ⟨⟨_, rfl⟩, .inr ⟨pre ++ [⟨k, hlt⟩], ⟨k + 1, by omega, by unfold firstK; rw [List.map_append, HPRE.out, List.range_succ]; rfl⟩, hJx3⟩⟩
    · obtain rfl : k = M := by omega
      gi_wp2
      go_end0
      exact ⟨⟨_, rfl⟩, .inl ⟨pre, HPRE.out, hJr⟩⟩

theorem gains_stops (m : Nat) (hm : 2 ≤ m) (B1 M : Nat) (hM : M ≤ 16777216) (w : World)
    (own : Nat → Prop) (o1 : ¬ own B1) (h1 : w.heap[B1]? = some (.cells #[.int .i64 M] 3 (0, 0))) :
    SeqStopsK Fence.wide m Try.prog 44 #[.pointer (some ⟨B1, 0, none⟩)] (fun x : Ix M => encG M x) (KpEx own) (fun ys => firstK ys M) (fun pre => ∃ k, k ≤ M ∧ firstK pre k) M w := fun lp J Jx W hW _ _ hY h0 => by
  exact gains1_in m hm lp B1 M hM J Jx W own o1 hY (blk_below h1 hW (Array.getElem?_eq_some_iff.1 h1).1) h0

theorem gains_any (M : Int) (w : World) :
    Calls Try.prog 34 #[.int .i64 M] w fun e w' => e = .returned (.func (.func 44) #[] #[.pointer (some ⟨w.heap.size, 0, none⟩)]) ∧
      w' = w.alloc (.cells #[.int .i64 M] 3) := by
  go_enter Try.func34, Try.ntmps34
  go_wp2
  go_ret
  exact ⟨by simp, by simp⟩
end Go.Proofs.Ytagikfiiljdpnaa
