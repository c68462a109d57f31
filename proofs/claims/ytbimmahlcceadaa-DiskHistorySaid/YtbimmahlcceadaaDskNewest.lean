/- The writes, the last one first (layer 4). -/
import Derived.Test.YtbimmahlcceadaaSeq
import Derived.Test.YtbimmahlcceadaaDskRRead
namespace Go.Proofs.Ytbimmahlcceadaa
open Go.RowKit Go.Shelf

attribute [local go_sem] Oper.semAt_some

abbrev Ix (n : Nat) := { k : Nat // k < n }
def wrV (p : Wr) : Value := .agg #[.int .i64 p.1, .slice p.2.1 p.2.2.2.length p.2.2.1]
def encN (P : List Wr) {n : Nat} (x : Ix n) : Array Value := #[wrV (nW P (n - 1 - x.1))]
/-- The first k indices. -/
def firstK {n : Nat} (pre : List (Ix n)) (k : Nat) : Prop := pre.map (·.1) = List.range k
theorem firstK_len {n : Nat} {pre : List (Ix n)} {k : Nat} (h : firstK pre k) : pre.length = k := by
  have := congrArg List.length h; simpa using this
theorem blk_new2 (w : World) (o o2 : Obj) : ((w.alloc o).alloc o2).heap[w.heap.size + 1]? = some o2 := by
  have := blk_new (w.alloc o) o2
  rwa [World.size_alloc] at this
theorem cells_blk {w : World} {b i : Nat} {v : Value} (h : w.cell? ⟨b, i, none⟩ = some v) : ∃ c tb fr, w.heap[b]? = some (.cells c tb fr) := by
  unfold World.cell? at h
  dsimp only at h
  split at h
  · rename_i c tb fr heq
    exact ⟨c, tb, fr, heq⟩
  · cases h

set_option maxRecDepth 100000 in
set_option maxHeartbeats 4000000 in
theorem newest1_in (m : Nat) (hm : 1 ≤ m) (lp Bs pb po pn pc : Nat) (pa : Option Addr) (P : List Wr) (own : Nat → Prop) (hoB : ¬ own Bs) (hob : 0 < pn → ¬ own pb) (hpn : pn ≤ 9223372036854775807)
    (J Jx : List (Ix pn) → World → Prop) (W : World)
    (hY : ∀ pre x W1, J pre W1 → pre.length < pn → YieldAt Fence.wide (m - 1) Try.prog lp (encN P x) W1 fun e W' =>
      (e = .returned (.bool true) ∧ J (pre ++ [x]) W' ∧ KpEx own W1 W') ∨ (e = .returned (.bool false) ∧ Jx (pre ++ [x]) W'))
    (hBs : W.heap[Bs]? = some (.cells #[.slice pa pn pc] 23 (0, 0))) (hM : Pens W pa pb po pn P) (h0 : J [] W) :
    CallsIn Fence.wide m Try.prog 33 #[.func (.yield lp) #[] #[], .pointer (some ⟨Bs, 0, none⟩)] W fun e W' => (∃ v, e = .returned v) ∧
      ((∃ ys, firstK ys pn ∧ J ys W') ∨ (∃ pre, (∃ k, k ≤ pn ∧ firstK pre k) ∧ Jx pre W')) := by
  have hro : Fence.wide.round = none := rfl
  have HM := Lib.hid hM
  clear hM
  refine callsIn_of_wp Try.func33 rfl trivial ?_ hro
  simp only [Try.ntmps33, List.size_toArray, List.length_cons, List.length_nil, Nat.reduceAdd, Nat.reduceSub, Array.replicate_succ, Array.replicate_zero, List.push_toArray, List.append_toArray, List.nil_append, List.cons_append]
  have c1 := blk_cell hBs 0
  simp at c1
  have u0 : IntKind.i64.wrap ((pn : Int) - 1) = (pn : Int) - 1 := wrap_id (by omega)
  gi_wp2
  gi_loopw [3] (fun v wr => ∃ (k : Nat) (i : Int) (pre : List (Ix pn)), k ≤ pn ∧ i = (pn : Int) - 1 - k ∧ v = .int .i64 i ∧ firstK pre k ∧ J pre wr ∧ KpEx own W wr) (fun v _ => (intOf v + 1).toNat)
  case atStart => exact ⟨0, (pn : Int) - 1, [], Nat.zero_le _, by omega, rfl, rfl, h0, KpEx.refl _ _⟩
  case round =>
    obtain ⟨k, i, pre, hk, hi, rfl, hpre, hJr, hKr⟩ := hrel
    have c2 := blk_cell (hKr.same _ _ hBs rfl hoB) 0
    simp at c2
    have HPRE := Lib.hid hpre; clear hpre c1 u0
    by_cases hlt : k < pn
    · obtain ⟨j, rfl⟩ := Int.eq_ofNat_of_zero_le (a := i) (by omega)
      have HJ := Lib.hid (show pn - 1 - k = j by omega)
      have hjp : (j : Int) < (pn : Int) := by omega
      have hj0 : ¬ (j : Int) < 0 := by omega
      have uj : IntKind.i64.wrap ((j : Int) - 1) = (j : Int) - 1 := wrap_id (by omega)
      obtain rfl := HM.out.adr (by omega)
      have a0 := HM.out.at_ j (by omega)
      have a1 := HM.out.cel j (by omega)
      obtain ⟨c, tb, fr, hb⟩ := cells_blk a0
      have kb := hKr.same _ _ hb rfl (hob (by omega))
      have d0 : wr.cell? ⟨pb, po + j * 2, none⟩ = some (.int .i64 (nW P j).1) := by rw [blk_cell kb]; rw [blk_cell hb] at a0; exact a0
      have d1 : wr.cell? ⟨pb, po + j * 2 + 1, none⟩ = some (slV (nW P j).2) := by rw [blk_cell kb]; rw [blk_cell hb] at a1; exact a1
      unfold slV at d1
      obtain ⟨fn, tmps, assign, bdy, hy, hR⟩ := hY pre ⟨k, hlt⟩ wr hJr (by rw [firstK_len HPRE.out]; exact hlt)
      unfold encN wrV at hy
      dsimp only at hy
      rw [HJ.out] at hy
      have HK := Lib.hid (show _ ∧ _ from ⟨hi, hlt⟩)
      clear a0 a1 hb kb hi
      generalize (nW P j).1 = A at *
      generalize (nW P j).2 = Z at *
      gi_wp2
      refine hR.mono ?_
      clear hy hR
      rintro e W3 (⟨rfl, hJ3, hk3⟩ | ⟨rfl, hJx3⟩)
      · gi_wp2
        go_roundw
        case rel => exact ⟨k + 1, (j : Int) - 1, pre ++ [⟨k, HK.out.2⟩], HK.out.2, by have := HK.out.1; omega, rfl, by unfold firstK; rw [List.map_append, HPRE.out, List.range_succ]; rfl, hJ3, kpEx_t hKr hk3⟩
        case measure => simp [intOf] <;> omega
      · gi_wp2
        refine bodyPost_ret (results_none rfl _ _ _) rfl ?_
        exact ⟨⟨_, rfl⟩, .inr ⟨pre ++ [⟨k, HK.out.2⟩], ⟨k + 1, HK.out.2, by unfold firstK; rw [List.map_append, HPRE.out, List.range_succ]; rfl⟩, hJx3⟩⟩
    · obtain rfl : k = pn := by omega
      obtain rfl : i = -1 := by omega
      clear hi hlt hk
      gi_wp2
      go_end0
      exact ⟨⟨_, rfl⟩, .inl ⟨pre, HPRE.out, hJr⟩⟩

theorem newest_stops (m : Nat) (hm : 1 ≤ m) (Bs pb po pn pc : Nat) (pa : Option Addr) (P : List Wr) (w : World) (own : Nat → Prop) (hoB : ¬ own Bs) (hob : 0 < pn → ¬ own pb) (hpn : pn ≤ 9223372036854775807)
    (hBs : w.heap[Bs]? = some (.cells #[.slice pa pn pc] 23 (0, 0))) (hM : Pens w pa pb po pn P) :
    SeqStopsK Fence.wide m Try.prog 33 #[.pointer (some ⟨Bs, 0, none⟩)] (fun x : Ix pn => encN P x) (KpEx own) (fun ys => firstK ys pn) (fun pre => ∃ k, k ≤ pn ∧ firstK pre k) pn w := fun lp J Jx W hW _ _ hY h0 => by
  exact newest1_in m hm lp Bs pb po pn pc pa P own hoB hob hpn J Jx W hY (blk_below hBs hW (Array.getElem?_eq_some_iff.1 hBs).1) (hM.below hW (Nat.le_refl _)) h0

theorem newest_any (pa : Option Addr) (pn pc : Nat) (w : World) :
    Calls Try.prog 31 #[.slice pa pn pc] w fun e w' => e = .returned (.func (.func 33) #[] #[.pointer (some ⟨w.heap.size, 0, none⟩)]) ∧
      w' = w.alloc (.cells #[.slice pa pn pc] 23) := by
  go_enter Try.func31, Try.ntmps31
  go_wp2
  go_ret
  exact ⟨by simp, by simp⟩
end Go.Proofs.Ytbimmahlcceadaa
