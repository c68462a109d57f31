/- A history of a disk, as mathematics (layer 4). -/
import Derived.Test.YtbimmahlcceadaaDskHolds
import Derived.Test.YtbimmahlcceadaaDskRunM
import Derived.Test.YtbimmahlcceadaaDskFar2
namespace Go.Proofs.Ytbimmahlcceadaa
open Go.ChangeShapes Go.WideShapes Go.ChangeAt Go.RowKit
def byA (l : List At) (k : Nat) : Int := (nthA l k).2.2
/-- Bytes behind the first k acts. -/
def runF (l : List At) (F : List Int) : Nat → List Int
  | 0 => F
  | k + 1 => (runF l F k).set (atA l 4 k) (byA l k)
theorem runF_len (l : List At) (F : List Int) : ∀ k, (runF l F k).length = F.length
  | 0 => rfl
  | k + 1 => by rw [runF, List.length_set, runF_len l F k]
theorem getD_set {F : List Int} {i j : Nat} {x : Int} (hj : j < F.length) : (F.set j x).getD i 0 = if j = i then x else F.getD i 0 := by
  simp only [List.getD_eq_getElem?_getD, List.getElem?_set]
  by_cases e : j = i
  · subst e; simp [hj]
  · simp [e]
theorem torn_half (a b c d : Int) : tornL (halfL a b) (halfL c d) = halfL a d := by
  simp [tornL, halfL, z128]
theorem half_z : halfL 0 0 = z128 := by simp [halfL, z128]
/-- Writes that do what the waiting acts say. -/
def PensH (P : List Wr) (l : List At) (n : Nat) : Prop := P.length = n ∧ ∀ j, j < n → (nW P j).1 = (atA l 4 j : Int) ∧ (nW P j).2.2.2 = dblL (byA l j)
theorem nthA_app_l {l r : List At} {i : Nat} (h : i < l.length) : nthA (l ++ r) i = nthA l i := by unfold nthA; rw [List.getD_eq_getElem?_getD, List.getD_eq_getElem?_getD, List.getElem?_append_left h]
theorem nthA_app_r {l : List At} {x : At} : nthA (l ++ [x]) l.length = x := by simp [nthA, List.getD_eq_getElem?_getD]
theorem PensH.snoc {P : List Wr} {l : List At} {n t : Nat} {x : At} {Y : Sl} (h : PensH P l n) (hl : l.length = n) (ht : t = (x.2.1 % 4).toNat) (hY : Y.2.2 = dblL x.2.2) : PensH (P ++ [((t : Int), Y)]) (l ++ [x]) (n + 1) := by
  obtain ⟨h1, h2⟩ := h
  refine ⟨by simp; exact h1, fun j hj => ?_⟩
  by_cases e : j < n
  · rw [nW_app_l (by omega)]
    unfold atA byA
    rw [nthA_app_l (by omega)]
    exact h2 j e
  · obtain rfl : j = n := by omega
    rw [← h1, nW_app_r]
    unfold atA byA
    rw [h1, ← hl, nthA_app_r]
    exact ⟨by rw [ht]; rfl, hY⟩
theorem okWr_h {P : List Wr} {l : List At} {n : Nat} (h : PensH P l n) {j : Nat} (hj : j < n) : okWr 4 (nW P j) := by
  obtain ⟨e1, e2⟩ := h.2 j hj
  have := atA_lt (l := l) (n := 4) (k := j) (by omega)
  exact ⟨by rw [e1]; omega, by rw [e1]; omega, by rw [e2]; exact dblL_len _⟩
theorem valid_h {S : List Sl} {P : List Wr} {l : List At} {lf : Int} {n : Nat} {F G : List Int} (hn : S.length = 4) (hS : ∀ i, i < 4 → (nS S i).2.2 = halfL (F.getD i 0) (G.getD i 0)) (h : PensH P l n) (hj : n ≤ 4096) (h1 : -1 ≤ lf) (h2 : lf ≤ 65536) : Valid ⟨S, P, lf, false⟩ :=
  ⟨⟨by show 1 ≤ S.length; omega, by show S.length ≤ 4096; omega, by show P.length ≤ 4096; rw [h.1]; exact hj, h1, h2⟩, fun i hi => by show (nS S i).2.2.length = 128; rw [hS i (by rw [← hn]; exact hi)]; exact halfL_len _ _, fun i hi => by show okWr S.length (nW P i); rw [hn]; exact okWr_h h (by rw [← h.1]; exact hi)⟩
theorem cont_h {S : List Sl} {P : List Wr} {l : List At} {n : Nat} {F G : List Int} (hn : S.length = 4) (hF : F.length = 4) (hG : G.length = 4) (hS : ∀ i, i < 4 → (nS S i).2.2 = halfL (F.getD i 0) (G.getD i 0)) (h : PensH P l n) : ∀ m, m ≤ n → ∀ i, i < 4 → (nS (perfK S P m) i).2.2 = halfL ((runF l F m).getD i 0) ((runF l G m).getD i 0)
  | 0, _, i, hi => hS i hi
  | m + 1, hm, i, hi => by
    obtain ⟨e1, e2⟩ := h.2 m (by omega)
    have hlt := atA_lt (l := l) (n := 4) (k := m) (by omega)
    have ih := cont_h hn hF hG hS h m (by omega) i hi
    unfold perfK runF
    rw [e1, Int.toNat_natCast, getD_set (by rw [runF_len, hF]; exact hlt), getD_set (by rw [runF_len, hG]; exact hlt)]
    by_cases e : atA l 4 m = i
    · rw [if_pos e, if_pos e, ← e, nS_set (by rw [perfK_len, hn]; exact hlt), e2, dbl_half]
    · rw [if_neg e, if_neg e, nS_set_ne (Ne.symm e), ih]
theorem torn_h {S : List Sl} {P : List Wr} {l : List At} {n m : Nat} {F G : List Int} {Y3 : Sl} (hn : S.length = 4) (hF : F.length = 4) (hG : G.length = 4) (hS : ∀ i, i < 4 → (nS S i).2.2 = halfL (F.getD i 0) (G.getD i 0)) (h : PensH P l n) (hm : m < n) (hY : Y3.2.2 = tornL (nW P m).2.2.2 (nS (perfK S P m) (nW P m).1.toNat).2.2) : ∀ i, i < 4 → (nS ((perfK S P m).set (nW P m).1.toNat Y3) i).2.2 = halfL ((runF l F (m + 1)).getD i 0) ((runF l G m).getD i 0) := fun i hi => by
  obtain ⟨e1, e2⟩ := h.2 m hm
  have hlt := atA_lt (l := l) (n := 4) (k := m) (by omega)
  have ih := cont_h hn hF hG hS h m (by omega)
  rw [e1, Int.toNat_natCast] at hY ⊢
  rw [e2, dbl_half, ih _ hlt, torn_half] at hY
  rw [runF, getD_set (by rw [runF_len, hF]; exact hlt)]
  by_cases e : atA l 4 m = i
  · rw [if_pos e, ← e, nS_set (by rw [perfK_len, hn]; exact hlt), hY]
  · rw [if_neg e, nS_set_ne (Ne.symm e), ih i hi]
/-- What is read behind a write. -/
theorem read_h {S : List Sl} {P : List Wr} {n t : Nat} {L : List Int} {b : Int} {Y : Sl} (hP : P.length = n) (hL : L.length = 4) (ht : t < 4) (hY : Y.2.2 = dblL b) (h : ∀ i : Nat, i < 4 → (rdK P (i : Int) (nS S i) n).2.2 = halfL (L.getD i 0) (L.getD i 0)) : ∀ i : Nat, i < 4 → (rdK (P ++ [((t : Int), Y)]) (i : Int) (nS S i) (n + 1)).2.2 = halfL ((L.set t b).getD i 0) ((L.set t b).getD i 0) := fun i hi => by
  rw [rd_snoc hP, getD_set (by rw [hL]; exact ht)]
  by_cases e : t = i
  · rw [if_pos (by show (t : Int) = i; omega), if_pos e, hY, dbl_half]
  · rw [if_neg (by show ¬ (t : Int) = i; omega), if_neg e, h i hi]
/-- What is read behind a sync. -/
theorem sync_h {S : List Sl} {P : List Wr} {l : List At} {n : Nat} {L : List Int} (hn : S.length = 4) (h : PensH P l n) (hr : ∀ i : Nat, i < 4 → (rdK P (i : Int) (nS S i) n).2.2 = halfL (L.getD i 0) (L.getD i 0)) : ∀ i : Nat, i < 4 → (nS (perfK S P n) i).2.2 = halfL (L.getD i 0) (L.getD i 0) := fun i hi => by
  rw [perf_rd (by omega) n (fun j hj => ⟨(okWr_h h hj).1, by have := (okWr_h h hj).2.1; rw [hn]; exact this⟩)]
  exact hr i hi
end Go.Proofs.Ytbimmahlcceadaa
