/- The map of the links' targets, and links.sources (layer 13). -/
import Derived.Test.YthncfhfnboocmaaLnkMath
import Derived.Test.YthncfhfnboocmaaOpenSJ
import Derived.Maps.Own
import Derived.Maps.OwnSet
import Derived.Maps.OwnIn
namespace Go.Proofs.Ythncfhfnboocmaa
open Go.ChangeShapes Go.WideShapes Go.ChangeAt Go.RowKit

theorem wrap_id {x : Int} (h : -9223372036854775808 ≤ x ∧ x ≤ 9223372036854775807) : IntKind.i64.wrap x = x := by rw [IntKind.wrap_i64]; omega
abbrev vJ (m : Jt) : Value := .agg #[.int .i64 m.1, .int .i64 m.2.1, .int .i64 m.2.2.1, .int .i64 m.2.2.2.1, .int .i64 m.2.2.2.2]
/-- An element reads as itself. -/
def selfElem (v : Value) : Option (DataW Value × List MemPlace) := some (.held v, [])
def keyJ (p : Int) : Lit := .int .i64 p
theorem keyJ_is (p : Int) : WideAt.IsKeyLit (keyJ p) := trivial
theorem keyJ_ne {p q : Int} (h : p ≠ q) : keyJ p ≠ keyJ q := by intro e; injection e with _ e; exact h e
/-- The map after the first k links. -/
def mapJ (l : List Jt) : Nat → DataW Value
  | 0 => .map []
  | k + 1 => (mapJ l k).put (keyJ (nthJ l k).2.1) (.held (vJ (nthJ l k)))
theorem mapJ_tidy (l : List Jt) : ∀ k, Maps.Tidy (mapJ l k) := by
  intro k
  induction k with
  | zero => exact Maps.tidy_empty
  | succ k ih => exact ih.put (keyJ_is _) _
theorem mapJ_has (l : List Jt) (p : Int) : ∀ k, Maps.has (mapJ l k) (keyJ p) = decide (0 < srcN l p k) := by
  intro k
  induction k with
  | zero => rfl
  | succ k ih =>
    unfold mapJ srcN
    by_cases e : (nthJ l k).2.1 = p
    · rw [if_pos e, e, Maps.has_put_same (mapJ_tidy l k).isMap (keyJ_is _)]
      exact (decide_eq_true (by omega)).symm
    · rw [if_neg e, Maps.has_put_other (keyJ_ne (fun h => e h.symm)), ih]
def zJ : Jt := (0, 0, 0, 0, 0)
/-- What a look-up at p gives, after the first k links. -/
def lookJ (l : List Jt) (p : Int) (k : Nat) : Jt := if srcN l p k = 0 then zJ else nthJ l (srcN l p k - 1)
theorem mapJ_at (l : List Jt) (p : Int) : ∀ k, (mapJ l k).atKey (keyJ p) (.held (vJ zJ)) = .held (vJ (lookJ l p k)) := by
  intro k
  induction k with
  | zero => rfl
  | succ k ih =>
    unfold mapJ lookJ srcN
    by_cases e : (nthJ l k).2.1 = p
    · rw [if_pos e, e, Maps.atKey_put_same (mapJ_tidy l k).isMap (keyJ_is _), if_neg (by omega), Nat.add_sub_cancel]
    · rw [if_neg e, Maps.atKey_put_other (keyJ_ne (fun h => e h.symm)), ih]
      rfl
theorem mapJ_le (l : List Jt) : ∀ k, Maps.size (mapJ l k) ≤ k := by
  intro k
  induction k with
  | zero => exact Nat.le_refl _
  | succ k ih =>
    unfold mapJ
    rw [Maps.size_put (mapJ_tidy l k)]
    split <;> omega
theorem mapJ_size (l : List Jt) : ∀ k, Maps.size (mapJ l k) = k ↔ apart l k := by
  intro k
  induction k with
  | zero => exact ⟨fun _ i j h1 h2 => by omega, fun _ => rfl⟩
  | succ k ih =>
    have hle := mapJ_le l k
    have e : Maps.size (mapJ l (k + 1)) = if Maps.has (mapJ l k) (keyJ (nthJ l k).2.1) then Maps.size (mapJ l k) else Maps.size (mapJ l k) + 1 := Maps.size_put (mapJ_tidy l k) _
    rw [e, mapJ_has]
    by_cases hs : srcN l (nthJ l k).2.1 k = 0
    · rw [hs, if_neg (by simp)]
      constructor
      · intro h i j h1 h2
        have ha := ih.1 (by omega)
        by_cases ej : j = k
        · subst ej; exact srcN_no j hs i h1
        · exact ha i j h1 (by omega)
      · intro h
        have := ih.2 (fun i j h1 h2 => h i j h1 (by omega))
        omega
    · have hp : 0 < srcN l (nthJ l k).2.1 k := by omega
      rw [if_pos (decide_eq_true hp)]
      constructor
      · intro h; omega
      · intro h
        have h1 := srcN_to k hp
        have h2 := srcN_le l (nthJ l k).2.1 k
        exact absurd h1 (h _ k (by omega) (by omega))

theorem intKeyed : Maps.Keyed Try.prog 3 := Maps.int_keyed Try.underlying3
theorem keyOf_J (p : Int) (h : (Lit.int .i64 p).wf = true) : keyOf Try.prog 3 (.int .i64 p) = some (keyJ p) := Maps.keyOf_int_mk Try.underlying3 h
theorem run_makeMap_hint (t : TypeId) {k e : TypeId} (ht : Try.prog.underlying t = some (.map k e)) (n : Int) (w : World) :
    (Instr.makeMap t (some (.int .i64 n))).run Try.prog w = .ok (.map (some w.heap.size)) (w.alloc (.map #[] 0)) := by
  simp [Instr.makeMap, run_underlying ht, asInt, asIntOf, Result.andThen]

theorem zeroJ (w : World) : (zeroValue 34).run Try.prog w = .ok (vJ zJ) w := by kernel_rfl
/-- A look-up in the links' map. -/
theorem lkLook {w : World} {mb n : Nat} {l : List Jt} (h : w.ownsMap Try.prog 3 selfElem mb n (mapJ l n)) (p : Int) (hp : (Lit.int .i64 p).wf = true) :
    (Instr.lookup 43 (.map (some mb)) (.int .i64 p) true).run Try.prog w = .ok (.tuple #[vJ (lookJ l p n), .bool (decide (0 < srcN l p n))]) w := by
  obtain ⟨v, ps, hrun, hv⟩ := h.look_ok intKeyed Try.underlying43 (zeroJ w) (zd := .held (vJ zJ)) (zp := []) rfl (keyOf_J p hp)
  rw [mapJ_at] at hv
  rw [mapJ_has] at hrun
  simp only [selfElem, Option.some.injEq, Prod.mk.injEq, DataW.held.injEq] at hv
  rw [hv.1] at hrun
  exact hrun
set_option maxRecDepth 100000 in
set_option maxHeartbeats 4000000 in
theorem lkSources (a : Option Addr) (b off n cap : Nat) (l : List Jt) (w : World) (h : Js w a n b off l) (hn : n ≤ 4611686018427387904)
    (hw : ∀ i, i < n → wfJ (nthJ l i)) :
    Calls Try.prog 22 #[.slice a n cap] w fun e w' => (∃ mb, w.heap.size ≤ mb ∧ e = .returned (.map (some mb)) ∧ w'.ownsMap Try.prog 3 selfElem mb n (mapJ l n)) ∧ Below w.heap.size w w' := by
  have HK := Lib.hid (show _ ∧ _ from ⟨h, hw⟩)
  clear h hw
  have hmm := fun n w => run_makeMap_hint 43 Try.underlying43 n w
  go_enter Try.func22, Try.ntmps22
  go_wp2
  go_loopw [11] (fun i wr => ∃ k : Nat, k ≤ n ∧ i = .int .i64 k ∧ wr.ownsMap Try.prog 3 selfElem w.heap.size k (mapJ l k) ∧ Below w.heap.size w wr) (fun i _ => n - (intOf i).toNat)
  case atStart => exact ⟨0, Nat.zero_le _, rfl, World.ownsMap_made _ _ _ _, (Below.refl _ _).alloc (Nat.le_refl _) _⟩
  case round =>
    obtain ⟨k, hk, rfl, hown, hb⟩ := hrel
    by_cases hlt : k < n
    case neg =>
      obtain rfl : k = n := by omega
      go_wp2
      go_ret
      exact ⟨⟨_, Nat.le_refl _, rfl, hown⟩, hb⟩
    obtain ⟨rfl, hbw⟩ := HK.out.1.2.1 (by omega)
    obtain ⟨c0, c1, c2, c3, c4⟩ := (HK.out.1.grown hb).2.2 k hlt
    have hz := hb.size
    have hkey := keyOf_J (nthJ l k).2.1 (HK.out.2 k hlt).2.1
    have hb2 := hb.alloc hz (.cells #[.int .i64 (nthJ l k).1, .int .i64 (nthJ l k).2.1, .int .i64 (nthJ l k).2.2.1, .int .i64 (nthJ l k).2.2.2.1, .int .i64 (nthJ l k).2.2.2.2] 34)
    have hown2 := hown.alloc (.cells #[.int .i64 (nthJ l k).1, .int .i64 (nthJ l k).2.1, .int .i64 (nthJ l k).2.2.1, .int .i64 (nthJ l k).2.2.2.1, .int .i64 (nthJ l k).2.2.2.2] 34)
    have uk : IntKind.i64.wrap ((k : Int) + 1) = (k : Int) + 1 := wrap_id (by omega)
    have i2 : (k : Int) < (n : Int) := by omega
    generalize hx : nthJ l k = x at *
    obtain ⟨tA, V, S, A, B⟩ := x
    dsimp only at c0 c1 c2 c3 c4 hkey hb2 hown2
    have HO := Lib.hid (show _ ∧ _ ∧ _ from ⟨hx, hb2, hown2⟩)
    clear hx hb2 hown2 hown hb
    go_wp2_with (at_mapUpdate; refine wpList_mapUpdate_own _ rfl _ _ _ 43 rfl 3 34 intKeyed Try.underlying43 selfElem w.heap.size k _ rfl HO.out.2.2 (by unfold maxLen; omega) _ _ (keyJ V) rfl rfl hkey (.held (vJ (tA, V, S, A, B))) [] rfl ?_)
    intro w1 hown1 hgrow1
    have e1 : (mapJ l k).put (keyJ V) (.held (vJ (tA, V, S, A, B))) = mapJ l (k + 1) := by
      conv => rhs; unfold mapJ
      rw [HO.out.1]
    rw [e1] at hown1
    have R2 := HO.out.2.1.grown hgrow1 HO.out.2.1.size (fun j hj => by cases hj; exact Nat.le_refl _)
    go_wp2
    go_roundw
    case rel => exact ⟨k + 1, by omega, by go_num, hown1, R2⟩
    case measure => simp [intOf]; omega
end Go.Proofs.Ythncfhfnboocmaa
