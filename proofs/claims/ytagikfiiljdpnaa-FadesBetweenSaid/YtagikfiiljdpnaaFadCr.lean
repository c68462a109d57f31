/- The program's Cross (layer 27). -/
import Derived.Test.YtagikfiiljdpnaaFadInOut
import Derived.Test.YtagikfiiljdpnaaFadMix
import Derived.Test.YtagikfiiljdpnaaHeld
namespace Go.Proofs.Ytagikfiiljdpnaa
open Go.RowKit Go.Shelf

attribute [local go_sem] Oper.semAt_some

def mixF (w : World) (X : Nat) : Value := .func (.func 32) #[] #[.pointer (some ⟨w.heap.size, 0, none⟩), .pointer (some ⟨w.heap.size + 1 + 1 + 1, 0, none⟩), .pointer (some ⟨w.heap.size + 1 + 1, 0, none⟩), .pointer (some ⟨w.heap.size + 1, 0, none⟩), .pointer (some ⟨X, 0, none⟩)]
abbrev crP (w : World) (a b : Option Addr) (an bn ac bc M st : Nat) : World := (((w.alloc (.cells #[.slice a an ac] 27)).alloc (.cells #[.slice b bn bc] 27)).alloc (.cells #[.int .i64 M] 3)).alloc (.cells #[.int .i64 st] 3)
/-- What Cross lays in memory ahead of its steps. -/
structure CrB (w W : World) (a b : Option Addr) (an bn ac bc M st : Nat) : Prop where
  s0 : W.heap[w.heap.size]? = some (.cells #[.slice a an ac] 27 (0, 0))
  s1 : W.heap[w.heap.size + 1]? = some (.cells #[.slice b bn bc] 27 (0, 0))
  s2 : W.heap[w.heap.size + 1 + 1]? = some (.cells #[.int .i64 M] 3 (0, 0))
  s3 : W.heap[w.heap.size + 1 + 1 + 1]? = some (.cells #[.int .i64 st] 3 (0, 0))
theorem CrB.below {w W W' : World} {B : Nat} {a b : Option Addr} {an bn ac bc M st : Nat} (h : CrB w W a b an bn ac bc M st) (hb : Below B W W') (hB : w.heap.size + 4 ≤ B) : CrB w W' a b an bn ac bc M st :=
  ⟨blk_below h.s0 hb (by omega), blk_below h.s1 hb (by omega), blk_below h.s2 hb (by omega), blk_below h.s3 hb (by omega)⟩
theorem crStart {w w1 : World} {a b : Option Addr} {an bn ac bc M st : Nat} (hS : w1.ownsRow (w.heap.size + 4) 3 1 (.slice (some ⟨(crP w a b an bn ac bc M st).heap.size, 0, none⟩) M M) M (madeCells (Value.int .i64 0).cells (M * 1)).toList)
    (hG : (crP w a b an bn ac bc M st).grownBy w1 none) : CrB w w1 a b an bn ac bc M st ∧ Ints w1 (w.heap.size + 4) (.slice (some ⟨w.heap.size + 4, 0, none⟩) M M) (List.replicate M 0) ∧ Below w.heap.size w w1 ∧ w.heap.size + 5 ≤ w1.heap.size := by
  have hz : (crP w a b an bn ac bc M st).heap.size = w.heap.size + 4 := by simp [crP]
  have hB : Below (w.heap.size + 4) (crP w a b an bn ac bc M st) w1 := (Below.refl _ _).grown hG (by rw [hz]; exact Nat.le_refl _) (fun _ h => by cases h)
  rw [hz] at hS
  have hlt := (World.ownsRow.lt hS (w.heap.size + 4) rfl).2
  have n1 := blk_new w (.cells #[.slice a an ac] 27)
  have n2 := blk_new (w.alloc (.cells #[.slice a an ac] 27)) (.cells #[.slice b bn bc] 27)
  have n3 := blk_new ((w.alloc (.cells #[.slice a an ac] 27)).alloc (.cells #[.slice b bn bc] 27)) (.cells #[.int .i64 M] 3)
  have n4 := blk_new (((w.alloc (.cells #[.slice a an ac] 27)).alloc (.cells #[.slice b bn bc] 27)).alloc (.cells #[.int .i64 M] 3)) (.cells #[.int .i64 st] 3)
  simp only [World.size_alloc] at n2 n3 n4
  have e : (madeCells (Value.int .i64 0).cells (M * 1)).toList = (List.replicate M (0 : Int)).map (Value.int .i64) := by
    apply List.ext_getElem?
    intro i
    by_cases hi : i < M
    · simp [madeCells, Value.cells, hi, Nat.mod_one]
    · rw [List.getElem?_eq_none (by simp [madeCells]; omega), List.getElem?_eq_none (by simp; omega)]
  refine ⟨⟨blk_below (blk_alloc (blk_alloc (blk_alloc n1 _) _) _) hB (by omega), blk_below (blk_alloc (blk_alloc n2 _) _) hB (by omega), blk_below (blk_alloc n3 _) hB (by omega), blk_below n4 hB (by omega)⟩, ?_, ?_, by omega⟩
  · unfold Ints
    rw [List.length_replicate, ← e]
    exact hS
  · refine Below.trans ?_ (hB.mono (by omega))
    unfold crP
    go_grown

/-- What Cross keeps in memory. -/
structure CrR (w W : World) (a b : Option Addr) (an bn ac bc M st X : Nat) (xs : List Int) : Prop where
  box : CrB w W a b an bn ac bc M st
  s4 : W.heap[X]? = some (.cells #[.slice (some ⟨w.heap.size + 1 + 1 + 1 + 1, 0, none⟩) M M] 27 (0, 0))
  s5 : W.heap[X + 1]? = some (.cells #[mixF w X] 40 (0, 0))
  own : Ints W (w.heap.size + 4) (.slice (some ⟨w.heap.size + 1 + 1 + 1 + 1, 0, none⟩) M M) xs
theorem CrB.grown {w A B : World} {a b : Option Addr} {an bn ac bc M st : Nat} {r : Option Nat} (h : CrB w A a b an bn ac bc M st) (hg : A.grownBy B r) (hr : ∀ q, r = some q → ∃ o : Obj, A.heap[q]? = some o ∧ o.isCells = false) : CrB w B a b an bn ac bc M st :=
  ⟨blk_kept h.s0 hg hr, blk_kept h.s1 hg hr, blk_kept h.s2 hg hr, blk_kept h.s3 hg hr⟩
theorem CrR.grown {w A B : World} {a b : Option Addr} {an bn ac bc M st X : Nat} {xs : List Int} {r : Option Nat} (h : CrR w A a b an bn ac bc M st X xs) (hg : A.grownBy B r) (hr : ∀ q, r = some q → ∃ o : Obj, A.heap[q]? = some o ∧ o.isCells = false) : CrR w B a b an bn ac bc M st X xs :=
  ⟨h.box.grown hg hr, blk_kept h.s4 hg hr, blk_kept h.s5 hg hr, h.own.grownNC hg hr⟩
theorem CrR.step {w W : World} {a b : Option Addr} {an bn ac bc M st X : Nat} {xs : List Int} (h : CrR w W a b an bn ac bc M st X xs) (hl : xs.length = M) (h2 : w.heap.size + 5 ≤ X) (hB : Below w.heap.size w W) (i : Nat) (y : Int) :
    KeepsOthers W (W.setCell ⟨w.heap.size + 1 + 1 + 1 + 1, i, none⟩ (.int .i64 y)).drew ∧ KpEx (fun j => ¬ (j = X + 1 + 1)) W (W.setCell ⟨w.heap.size + 1 + 1 + 1 + 1, i, none⟩ (.int .i64 y)).drew ∧
      CrR w (W.setCell ⟨w.heap.size + 1 + 1 + 1 + 1, i, none⟩ (.int .i64 y)).drew a b an bn ac bc M st X (xs.set i y) ∧ Below w.heap.size w (W.setCell ⟨w.heap.size + 1 + 1 + 1 + 1, i, none⟩ (.int .i64 y)).drew := by
  have far : ∀ q ob, q ≠ w.heap.size + 1 + 1 + 1 + 1 → W.heap[q]? = some ob → (W.setCell ⟨w.heap.size + 1 + 1 + 1 + 1, i, none⟩ (.int .i64 y)).drew.heap[q]? = some ob := fun q ob hq hw => (Below.heap_setCell W ⟨w.heap.size + 1 + 1 + 1 + 1, i, none⟩ (.int .i64 y) q hq).trans hw
  refine ⟨others_set, ⟨?_, fun k ob hk _ hn => ?_⟩, ⟨⟨far _ _ (by omega) h.box.s0, far _ _ (by omega) h.box.s1, far _ _ (by omega) h.box.s2, far _ _ (by omega) h.box.s3⟩, far _ _ (by omega) h.s4, far _ _ (by omega) h.s5, (Ints.stored hl h.own i y).drew⟩, (hB.setCell (p := ⟨w.heap.size + 1 + 1 + 1 + 1, i, none⟩) (by show w.heap.size ≤ w.heap.size + 1 + 1 + 1 + 1; omega) _).drew⟩
  · show W.heap.size ≤ (W.setCell ⟨w.heap.size + 1 + 1 + 1 + 1, i, none⟩ (.int .i64 y)).heap.size
    rw [World.size_setCell]
    exact Nat.le_refl _
  · have : k = X + 1 + 1 := Decidable.not_not.1 hn
    exact far _ _ (by omega) hk

/-- Elements that are set, in any order. -/
def crX (f : Nat → Int) (M : Nat) (is : List Nat) : List Int := is.foldl (fun L i => L.set i (f i)) (List.replicate M 0)
theorem crX_len (f : Nat → Int) (M : Nat) (is : List Nat) : (crX f M is).length = M := by
  unfold crX
  have : ∀ L : List Int, (is.foldl (fun L i => L.set i (f i)) L).length = L.length := by
    induction is with
    | nil => intro L; rfl
    | cons i is ih => intro L; rw [List.foldl_cons, ih, List.length_set]
  rw [this, List.length_replicate]
theorem crX_snoc (f : Nat → Int) (M : Nat) (is : List Nat) (i : Nat) : crX f M (is ++ [i]) = (crX f M is).set i (f i) := by
  unfold crX
  rw [List.foldl_append]
  rfl
theorem crX_range (f : Nat → Int) (M k : Nat) (hk : k ≤ M) : crX f M (List.range k) = (List.range k).map f ++ List.replicate (M - k) 0 := by
  induction k with
  | zero => simp [crX]
  | succ k ih =>
    rw [List.range_succ, crX_snoc, ih (by omega), List.set_append_right _ _ (by simp), List.map_append, List.append_assoc]
    congr 1
    have e : M - k = (M - (k + 1)) + 1 := by omega
    simp [e, List.replicate_succ]
def mixL (la lb : List Int) (st M : Nat) : Nat → Int := fun k => mixV (la.getD (st + k) 0) (lb.getD k 0) k M
def crossL (la lb : List Int) (st M : Nat) : List Int := la.take st ++ (List.range M).map (mixL la lb st M) ++ lb.drop M

theorem Row.pre {w : World} {a : Option Addr} {b off n : Nat} {l : List Int} (h : Row w a b off n l) {s : Nat} (hs : s ≤ n) : Row w a b off s (l.take s) :=
  ⟨by have := h.len; simp; omega, fun h0 => h.adr (by omega), fun h0 => h.old (by omega), fun j hj => by
    rw [h.cel j (by omega)]
    simp [List.getD_eq_getElem?_getD, hj]⟩
theorem Row.zero (w : World) (a : Option Addr) : Row w a 0 0 0 [] := ⟨rfl, fun h => by omega, fun h => by omega, fun i h => by omega⟩

theorem cut_pre {w : World} {a : Option Addr} {ab ao an ac st : Nat} {la : List Int} (h : Row w a ab ao an la) (hn : a = none → ac = 0) (hac : an ≤ ac) (hst : st ≤ an) :
    ∃ a2 c2 b2 o2, ((a = none ∧ ac = 0 ∧ an = 0 ∧ st = 0 ∧ a2 = none ∧ c2 = 0) ∨ ∃ p, a = some p ∧ a2 = some p ∧ c2 = ac) ∧ Row w a2 b2 o2 st (la.take st) := by
  cases a with
  | none =>
    have h0 := hn rfl
    exact ⟨none, 0, ab, ao, .inl ⟨rfl, h0, by omega, by omega, rfl, rfl⟩, h.pre hst⟩
  | some p => exact ⟨some p, ac, ab, ao, .inr ⟨p, rfl, rfl, rfl⟩, h.pre hst⟩
theorem cut_post {w : World} {b : Option Addr} {bb bo bn bc M : Nat} {lb : List Int} (h : Row w b bb bo bn lb) (hn : b = none → bc = 0) (hbc : bn ≤ bc) (hM : M ≤ bn) :
    ∃ a3 c3 b3 o3, ((b = none ∧ bc = 0 ∧ bn = 0 ∧ M = 0 ∧ a3 = none ∧ c3 = 0) ∨ (∃ p, b = some p ∧ M = bc ∧ bn = M ∧ a3 = some p ∧ c3 = 0) ∨ (∃ p, b = some p ∧ M < bc ∧ a3 = some (p.add M) ∧ c3 = bc - M)) ∧ Row w a3 b3 o3 (bn - M) (lb.drop M) := by
  have hz : bn - M = 0 → ∀ a3 : Option Addr, Row w a3 0 0 (bn - M) (lb.drop M) := by
    intro h0 a3
    rw [h0, List.drop_of_length_le (by rw [h.len]; omega)]
    exact Row.zero w a3
  cases b with
  | none =>
    have h0 := hn rfl
    exact ⟨none, 0, 0, 0, .inl ⟨rfl, h0, by omega, by omega, rfl, rfl⟩, hz (by omega) _⟩
  | some p =>
    by_cases hMb : M = bc
    · exact ⟨some p, 0, 0, 0, .inr (.inl ⟨p, rfl, hMb, by omega, rfl, rfl⟩), hz (by omega) _⟩
    · by_cases h0 : bn - M = 0
      · exact ⟨some (p.add M), bc - M, 0, 0, .inr (.inr ⟨p, rfl, by omega, rfl, rfl⟩), hz h0 _⟩
      · have he := h.adr (by omega)
        cases he
        refine ⟨_, bc - M, bb, bo + M, .inr (.inr ⟨_, rfl, by omega, rfl, rfl⟩), ?_⟩
        have hs := h.sub (i := M) (s := bn - M) (by omega)
        rw [Go.WideShapes.add_plain]
        rwa [List.take_of_length_le (by rw [List.length_drop, h.len]; exact Nat.le_refl _)] at hs

set_option maxRecDepth 100000 in
set_option maxHeartbeats 8000000 in
theorem cross_in (a b : Option Addr) (ab ao bb bo an bn ac bc M : Nat) (la lb : List Int) (w : World) (hRa : Row w a ab ao an la) (hRb : Row w b bb bo bn lb) (hM : M ≤ an) (hM2 : M ≤ bn) (hn : an + bn ≤ 1000000) (hac : an ≤ ac) (hbc : bn ≤ bc) (hna : a = none → ac = 0) (hnb : b = none → bc = 0) :
    CallsIn Fence.wide 5 Try.prog 19 #[.slice a an ac, .slice b bn bc, .int .i64 M] w fun e w' => ∃ v, e = .returned (.tuple #[v, .int .i64 0]) ∧ Ints w' w.heap.size v (crossL la lb (an - M) M) ∧ Below w.heap.size w w' := by
  have hro : Fence.wide.round = none := rfl
  have HLA := Lib.hid (show _ ∧ _ from ⟨hRa.len, hRb.len⟩)
  have HR := Lib.hid (show _ ∧ _ from ⟨hRa, hRb⟩); clear hRa hRb
  have hf1 : decide (FOk an M) = true := decide_eq_true ⟨by omega, by omega, by omega⟩
  have hf2 : decide (FOk bn M) = true := decide_eq_true ⟨by omega, by omega, by omega⟩
  refine callsIn_of_wp_marks Try.func19 rfl trivial ?_ hro
  simp only [Try.ntmps19, List.size_toArray, List.length_cons, List.length_nil, Nat.reduceAdd, Nat.reduceSub, Array.replicate_succ, Array.replicate_zero, List.push_toArray, List.append_toArray, List.nil_append, List.cons_append]
  refine wpIn_wide.2 ?_
  go_wp2_with fail
  refine (fits_any _ _ _ _ _).mono ?_; rintro e w' ⟨rfl, rfl⟩; rw [hf1]
  go_wp2_with fail
  refine (fits_any _ _ _ _ _).mono ?_; rintro e w' ⟨rfl, rfl⟩; rw [hf2]
  obtain ⟨st, hst⟩ : ∃ st, st = an - M := ⟨_, rfl⟩
  have z1 : IntKind.i64.wrap ((an : Int) - (M : Int)) = (st : Int) := by rw [IntKind.wrap_i64]; omega
  have z2 : (an : Int) - (M : Int) = (st : Int) := by omega
  have HST := Lib.hid hst; clear hst
  obtain ⟨i0, hi, hz0, hz1, hz2⟩ := info_parts info_int
  go_wp2_with (first
    | (at_make; refine wpList_make_full _ rfl _ _ 27 rfl (w.heap.size + 4) 3 i0 (.int .i64 0) 1 Try.underlying27 hi hz0 hz1 _ _ _ _ M rfl rfl (by simp) (by simp) (by rw [hz2]; omega) (by unfold maxLen; omega) (by simp) ?_; intro w1 hS hG; have HS := Lib.hid (crStart hS hG); clear hS hG; have c2 : ((w1.alloc (.cells #[.slice (some ⟨w.heap.size + 1 + 1 + 1 + 1, 0, none⟩) M M] 27)).alloc (.cells #[mixF w w1.heap.size] 40)).cell? ⟨w.heap.size + 1 + 1, 0, none⟩ = some (.int .i64 M) := blk_cell (blk_alloc (blk_alloc HS.out.1.s2 _) _) 0; simp only [mixF] at c2)
    | (go_at_call 34; refine (gains_any _ _).mono ?_; rintro e w' ⟨rfl, rfl⟩))
  obtain ⟨W0, hW0⟩ : ∃ W0, W0 = (((w1.alloc (.cells #[.slice (some ⟨w.heap.size + 1 + 1 + 1 + 1, 0, none⟩) M M] 27)).alloc (.cells #[mixF w w1.heap.size] 40)).alloc (.cells #[.int .i64 M] 3)) := ⟨_, rfl⟩
  have hz0 : W0.heap.size = w1.heap.size + 1 + 1 + 1 := by rw [hW0]; simp
  have n1 := blk_new w1 (.cells #[.slice (some ⟨w.heap.size + 1 + 1 + 1 + 1, 0, none⟩) M M] 27)
  have n2 := blk_new (w1.alloc (.cells #[.slice (some ⟨w.heap.size + 1 + 1 + 1 + 1, 0, none⟩) M M] 27)) (.cells #[mixF w w1.heap.size] 40)
  have n3 := blk_new ((w1.alloc (.cells #[.slice (some ⟨w.heap.size + 1 + 1 + 1 + 1, 0, none⟩) M M] 27)).alloc (.cells #[mixF w w1.heap.size] 40)) (.cells #[.int .i64 M] 3)
  simp only [World.size_alloc] at n1 n2 n3
  have hX5 : w.heap.size + 5 ≤ w1.heap.size := HS.out.2.2.2
  have hB0 : Below w.heap.size w W0 := by
    rw [hW0]
    exact ((HS.out.2.2.1.alloc (by omega) _).alloc (by simp; omega) _).alloc (by simp; omega) _
  have hst0 : CrR w W0 a b an bn ac bc M st w1.heap.size (crX (mixL la lb st M) M []) := by
    rw [hW0]
    exact ⟨⟨blk_alloc (blk_alloc (blk_alloc HS.out.1.s0 _) _) _, blk_alloc (blk_alloc (blk_alloc HS.out.1.s1 _) _) _, blk_alloc (blk_alloc (blk_alloc HS.out.1.s2 _) _) _, blk_alloc (blk_alloc (blk_alloc HS.out.1.s3 _) _) _⟩, blk_alloc (blk_alloc n1 _) _, blk_alloc n2 _, ((HS.out.2.1.alloc _).alloc _).alloc _⟩
  have hB3 : W0.heap[w1.heap.size + 1 + 1]? = some (.cells #[.int .i64 M] 3 (0, 0)) := by rw [hW0]; exact n3
  simp only [mixF] at hW0
  rw [← hW0]
  have HF := Lib.hid (show _ ∧ _ from ⟨hst0, hB0⟩)
  clear hst0 hB0 hW0 n1 n2 n3 HS c2
  generalize w1.heap.size = X at *
  refine wpIn_wide.1 (?_ : Code.wpIn Fence.wide 5 _ _ _ _ _)
  refine wpIn_rangeFunc_ownH rfl (by omega) (gf := 44) (lb := #[.pointer (some ⟨X + 1 + 1, 0, none⟩)]) rfl trivial (enters_of Try.func44 (by kernel_rfl) rfl)
    (gains_stops _ (by omega) (X + 1 + 1) M (by omega) W0 (fun j => ¬ (j = X + 1 + 1)) (fun g => g rfl) hB3)
    kpEx_t kpEx_b (Below.refl _ _) (fun _ => rfl)
    (fun pre W => CrR w W a b an bn ac bc M st X (crX (mixL la lb st M) M (ixs pre)) ∧ Below w.heap.size w W)
    (fun c pre W => False ∧ Below w.heap.size w W)
    (OwnFrom.and (Own.from (fun s A B row hs hg hr => hs.grown hg hr) _) (ownFrom_below (Nat.le_refl _) (by omega)))
    (fun c => OwnFrom.and (Own.from (fun s A B row hs hg hr => hs.elim) _) (ownFrom_below (Nat.le_refl _) (by omega)))
    ⟨HF.out.1, HF.out.2⟩
    (fun x a' W => a' = { tmps := #[.slice a an ac, .slice b bn bc, .int .i64 M, .pointer (some ⟨w.heap.size, 0, none⟩), .pointer (some ⟨w.heap.size + 1, 0, none⟩), .pointer (some ⟨w.heap.size + 1 + 1, 0, none⟩), .slice none 0 0, .int .i64 0, .pointer (some ⟨w.heap.size + 1 + 1 + 1, 0, none⟩), .pointer (some ⟨X, 0, none⟩), .pointer (some ⟨X + 1, 0, none⟩), .int .i64 x.1, .int .i64 (gainV x.1 M), .slice a an ac, .int .i64 M, .bool true, .bool false, .bool false, .slice b bn bc, .int .i64 M, .bool true, .bool false, .bool false, .slice a an ac, .int .i64 an, .int .i64 M, .int .i64 st, .int .i64 M, .slice (some ⟨w.heap.size + 1 + 1 + 1 + 1, 0, none⟩) M M, mixF w X, .int .i64 M, .func (.func 44) #[] #[.pointer (some ⟨X + 1 + 1, 0, none⟩)], .int .i64 x.1, .int .i64 (gainV x.1 M), undef, undef, undef, undef, undef, undef, undef, undef, undef, undef, undef, undef, undef], defers := [] })
    (fun x a' => Own.from (fun s A B row hs hg hr => hs) _) ?assign ?body ?done ?stop
  case assign =>
    rintro lp pre x W K ⟨hI, hB⟩ hK
    simp only [encG]
    gi_wp2
    refine hK _ _ (KeepsFrom.refl _ _) (KpEx.refl _ _) ⟨hI, hB⟩ ?_
    rfl
  case body =>
    rintro lp pre x a' W _ hpre ⟨hI, hB⟩ rfl hpl
    obtain ⟨k, hk⟩ := x
    dsimp only at *
    obtain rfl := HR.out.1.adr (by omega)
    obtain rfl := HR.out.2.adr (by omega)
    have hsk : st + k < an := by have := HST.out; omega
    have ca := (HR.out.1.below hB (Nat.le_refl _)).cel (st + k) hsk
    have cb := (HR.out.2.below hB (Nat.le_refl _)).cel k (by omega)
    have hfl := crX_len (mixL la lb st M) M (ixs pre)
    have cc := hI.own.cellAt hfl k hk
    have df := hI.own.freeAt hfl k
    have c5 := blk_cell hI.s5 0
    simp [mixF] at c5
    have hSn : crX (mixL la lb st M) M (ixs (pre ++ [(⟨k, hk⟩ : Ix M)])) = (crX (mixL la lb st M) M (ixs pre)).set k (mixV (la.getD (st + k) 0) (lb.getD k 0) k M) := by
      rw [ixs_snoc, crX_snoc]
      rfl
    have HST2 := Lib.hid (hI.step hfl hX5 hB k (mixV (la.getD (st + k) 0) (lb.getD k 0) k M))
    rw [← hSn] at HST2
    have HC := Lib.hid (mix_any w.heap.size (w.heap.size + 1) (w.heap.size + 1 + 1) (w.heap.size + 1 + 1 + 1) X (w.heap.size + 1 + 1 + 1 + 1) an bn ac bc M st k M ab ao bb bo (la.getD (st + k) 0) (lb.getD k 0) _ W hI.box.s0 hI.box.s1 hI.box.s2 hI.box.s3 hI.s4 hk hsk (by omega) (by omega) (by omega) ca cb cc df)
    clear ca cb cc df hI hB hSn
    gi_wp2
    refine ⟨trivial, ?_⟩
    refine (CallsIn.inRound lp (callsIn_wide.2 HC.out)).mono ?_
    rintro e W3 ⟨⟨v, rfl⟩, rfl⟩
    gi_wp2
    refine ⟨HST2.out.1.from _, HST2.out.2.1, ?_, HST2.out.2.2.2⟩
    exact HST2.out.2.2.1
  case done =>
    rintro D xs W hD hxs ⟨hI, hB⟩ hDf
    rename_i K hK
    rw [show ixs xs = List.range M from hxs, crX_range _ _ _ (Nat.le_refl _), Nat.sub_self, List.replicate_zero, List.append_nil] at hI
    have d0 := blk_cell hI.box.s0 0
    have d1 := blk_cell hI.box.s1 0
    have d2 := blk_cell hI.box.s2 0
    have d3 := blk_cell hI.box.s3 0
    have d4 := blk_cell hI.s4 0
    simp at d0 d1 d2 d3 d4
    obtain ⟨a2, c2, b2, o2, hV2, hr2⟩ := cut_pre (st := st) (HR.out.1.below hB (Nat.le_refl _)) hna hac (by have := HST.out; omega)
    obtain ⟨a3, c3, b3, o3, hV3, hr3⟩ := cut_post (M := M) (HR.out.2.below hB (Nat.le_refl _)) hnb hbc hM2
    obtain ⟨ra, rb, rc, hv, hrm, _, _⟩ := hI.own.row
    have hml : ((List.range M).map (mixL la lb st M)).length = M := by simp
    rw [hml] at hv hrm
    simp only [Value.slice.injEq, true_and] at hv
    obtain ⟨rfl, rfl⟩ := hv
    have hWs := hB.size
    have HV2 := Lib.hid hV2
    have HV3 := Lib.hid hV3
    have HRR := Lib.hid (show _ ∧ _ ∧ _ from ⟨hr2, hrm, hr3⟩)
    have HI := Lib.hid (show _ ∧ _ from ⟨hI, hB⟩)
    clear hI hB hV2 hV3 hr2 hr3 hrm
    refine hK _ _ ?_
    go_wp2_with fail
    have hs1 : st + M = an := by have := HST.out; omega
    have hs2 : (st : Int) ≤ (ac : Int) := by omega
    have hs3 : (M : Int) ≤ (bn : Int) := by omega
    refine wp_region_from 0 7 (fun w' => w'.cell? ⟨w.heap.size, 0, none⟩ = some (.slice a an ac) ∧ w'.cell? ⟨w.heap.size + 1 + 1 + 1, 0, none⟩ = some (.int .i64 st) ∧ w'.cell? ⟨X, 0, none⟩ = some (.slice (some ⟨w.heap.size + 1 + 1 + 1 + 1, 0, none⟩) M M) ∧ w'.cell? ⟨w.heap.size + 1, 0, none⟩ = some (.slice b bn bc) ∧ w'.cell? ⟨w.heap.size + 1 + 1, 0, none⟩ = some (.int .i64 M)) (by kernel_rfl) (by kernel_rfl) (by decide) (by kernel_rfl) ⟨d0, d3, d4, d1, d2⟩ ?_
    simp only [List.drop_zero, List.take_succ_cons, List.take_zero]
    refine wpHeld_cons (.slice a an ac) (by kernel_rfl) ?_ ?_
    · rintro w' ⟨s0, s1, s2, s3, s4⟩
      try go_simp
    refine wpHeld_cons (.int .i64 st) (by kernel_rfl) ?_ ?_
    · rintro w' ⟨s0, s1, s2, s3, s4⟩
      try go_simp
    refine wpHeld_cons (.slice a2 st c2) (by kernel_rfl) ?_ ?_
    · rintro w' ⟨s0, s1, s2, s3, s4⟩
      rcases HV2.out with ⟨rfl, rfl, rfl, rfl, rfl, rfl⟩ | ⟨p, rfl, rfl, rfl⟩
      all_goals
        try go_simp
        try (first | omega | (intro h; exfalso; omega))
    refine wpHeld_cons (.slice (some ⟨w.heap.size + 1 + 1 + 1 + 1, 0, none⟩) M M) (by kernel_rfl) ?_ ?_
    · rintro w' ⟨s0, s1, s2, s3, s4⟩
      try go_simp
    refine wpHeld_cons (.slice b bn bc) (by kernel_rfl) ?_ ?_
    · rintro w' ⟨s0, s1, s2, s3, s4⟩
      try go_simp
    refine wpHeld_cons (.int .i64 M) (by kernel_rfl) ?_ ?_
    · rintro w' ⟨s0, s1, s2, s3, s4⟩
      try go_simp
    refine wpHeld_cons (.slice a3 (bn - M : Nat) c3) (by kernel_rfl) ?_ ?_
    · rintro w' ⟨s0, s1, s2, s3, s4⟩
      rcases HV3.out with ⟨rfl, rfl, rfl, rfl, rfl, rfl⟩ | ⟨p, rfl, hmb, hmc, rfl, rfl⟩ | ⟨p, rfl, hmb, rfl, rfl⟩
      all_goals
        try go_simp
        try (first | omega | (intro h; exfalso; omega))
    refine wpHeld_nil ?_
    go_simp
    refine wpAnyH_one (i := 7) (by kernel_rfl) rfl (by kernel_rfl) (fun K' hK' => ?_)
    go_simp
    refine hK' _ _ ⟨cell_alloc_keep d0 _, cell_alloc_keep d3 _, cell_alloc_keep d4 _, cell_alloc_keep d1 _, cell_alloc_keep d2 _⟩ ?_
    clear hK' K'
    refine wpAnyH_one (i := 8) (by kernel_rfl) rfl (by kernel_rfl) (fun K' hK' => ?_)
    go_simp
    have hBW : Below W.heap.size W (W.drew.alloc (.cells #[.slice a2 st c2, .slice (some ⟨w.heap.size + 1 + 1 + 1 + 1, 0, none⟩) M M, .slice a3 (bn - M : Nat) c3] 27)) := (Below.refl _ _).drew.alloc (by show W.heap.size ≤ W.heap.size; omega) _
    refine (concat_three W.heap.size a2 (some ⟨w.heap.size + 1 + 1 + 1 + 1, 0, none⟩) a3 b2 rb b3 o2 0 o3 st M (bn - M) c2 M c3 _ _ _ (W.drew.alloc (.cells #[.slice a2 st c2, .slice (some ⟨w.heap.size + 1 + 1 + 1 + 1, 0, none⟩) M M, .slice a3 (bn - M : Nat) c3] 27)) (blk_new W.drew _) (HRR.out.1.below hBW (Nat.le_refl _)) (HRR.out.2.1.below hBW (Nat.le_refl _)) (HRR.out.2.2.below hBW (Nat.le_refl _)) (by omega)).mono ?_
    rintro e W3 ⟨v, rfl, hI3, hB3⟩
    have hcr : la.take st ++ (List.range M).map (mixL la lb st M) ++ lb.drop M = crossL la lb (an - M) M := by rw [← HST.out]; rfl
    rw [hcr] at hI3
    obtain ⟨av, cv, rfl⟩ := hI3.isSlice
    have hB4 : Below W.heap.size W W3 := hBW.trans (hB3.mono hBW.size)
    have hbx := HI.out.1.box.below hB4 (by have := HI.out.1.s5; have := (Array.getElem?_eq_some_iff.1 this).1; omega)
    have hX4 := blk_below HI.out.1.s4 hB4 (Array.getElem?_eq_some_iff.1 HI.out.1.s4).1
    have e0 := blk_cell hbx.s0 0
    have e1 := blk_cell hbx.s1 0
    have e2 := blk_cell hbx.s2 0
    have e3 := blk_cell hbx.s3 0
    have e4 := blk_cell hX4 0
    simp at e0 e1 e2 e3 e4
    have hDl := (Array.getElem?_eq_some_iff.1 hDf).1
    have hD2 : W3.heap[D]? = some (.deferred (some [])) := (hB4.block D hDl).trans hDf
    have hI5 := (hI3.mono (show w.heap.size ≤ _ from Nat.le_trans hWs hBW.size)).grownNC (grownBy_putObj' _ D (.deferred none)) (fun r e => by cases e; exact ⟨_, hD2, rfl⟩)
    have hB5 := (HI.out.2.trans (hB4.mono hWs)).trans (belowK_b (w := w) (Nat.le_refl _) _ D _ (.deferred none) (by omega) hD2 rfl rfl)
    have HZ := Lib.hid (show _ ∧ _ from ⟨hI5, hB5⟩)
    clear hI3 hB3 hB4 hbx hX4 hI5 hB5 hcr hBW
    refine hK' _ _ ⟨e0, e3, e4, e1, e2⟩ ?_
    clear hK' K'
    refine wpAnyH_one (i := 9) (by kernel_rfl) rfl (by kernel_rfl) (fun K' hK' => ?_)
    go_simp
    refine hK' _ _ ⟨e0, e3, e4, e1, e2⟩ ?_
    clear hK' K'
    refine wpAnyH_one (i := 10) (by kernel_rfl) rfl (by kernel_rfl) (fun K' hK' => ?_)
    go_simp
    refine hK' _ _ ⟨e0, e3, e4, e1, e2⟩ ?_
    clear hK' K'
    refine wpAnyH_done (by kernel_rfl) ?_ _
    refine NoPanic.normal ?_
    go_wp2_with fail
    refine ⟨by simp, .inl ⟨_, _, rfl, run_takeDeferred hD2, ?_⟩⟩
    exact ⟨.tuple #[.slice av (crossL la lb (an - M) M).length cv, .int .i64 0], by simp [results, Try.results19, go_sem], _, rfl, HZ.out.1, HZ.out.2⟩
  case stop =>
    rintro D cc pre W hD _ ⟨hF, _⟩ _
    exact hF.elim
end Go.Proofs.Ytagikfiiljdpnaa
