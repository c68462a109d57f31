/- slices.Clone and slices.Insert of records (layer 42). -/
import Derived.Test.YtjedpemjifcciaaCalBin
import Derived.Test.YtjedpemjifcciaaCopyN
namespace Go.Proofs.Ytjedpemjifcciaa
open Go.ChangeShapes Go.WideShapes Go.ChangeAt Go.RowKit Go.Sort

/-- A list of one's own comes back. -/
def OwnP (B : Nat) (l : List Rt) (w : World) (e : Ending) (w' : World) : Prop := ∃ v, e = .returned v ∧ RsO w' B v l ∧ Below B w w'
set_option maxHeartbeats 1000000 in
theorem clone_any (a : Option Addr) (n cap b off : Nat) (l : List Rt) (w : World) (h : Rs w a n b off l) (hn : n ≤ 1000) (hz : a = none → cap = 0) :
    Calls Try.prog 35 #[.slice a n cap] w (OwnP w.heap.size l w) := by
  cases a with
  | none =>
    obtain rfl : cap = 0 := hz rfl
    obtain rfl : n = 0 := by
      rcases Nat.eq_zero_or_pos n with h0 | h0
      · exact h0
      · have := (h.2.1 h0).1; cases this
    obtain rfl : l = [] := List.eq_nil_of_length_eq_zero h.1
    have hnil : ∀ w : World, (binOp .eql 22 (.slice none 0 0) (.slice none 0 0)).run Try.prog w = .ok (.bool true) w := fun w => Lib.run_eql_slice_nil w _ _ none 0 0 0 0 Try.underlying22
    go_enter Try.func35, Try.ntmps35
    go_wp2
    exact bodyPost_ret (v := .slice none 0 0) (by simp [results, Try.results35, go_sem]) rfl ⟨_, rfl, RsO.nil _ _, Below.refl _ _⟩
  | some x =>
    have hl := h.1
    have HM := Lib.hid (show _ ∧ _ from ⟨h, hl⟩)
    clear h hz hl
    have hnil : ∀ w : World, (binOp .eql 22 (.slice (some x) n cap) (.slice none 0 0)).run Try.prog w = .ok (.bool false) w := fun w => Lib.run_eql_slice_nil w _ _ (some x) n cap 0 0 Try.underlying22
    go_enter Try.func35, Try.ntmps35
    go_wp2_with (at_builtin; refine wpList_append_Rs rfl (.tmp 5) (.tmp 6) rfl w.heap.size _ [] rfl (RsO.empty w) (some x) b off n cap l rfl (HM.out.1.grown (by go_grown)) (fun h => by cases h) (by simp; omega) (by simp) ?_; intro v' w' h1 h2 _)
    exact bodyPost_ret (v := v') (by simp [results, Try.results35, go_sem]) rfl ⟨v', rfl, h1, Below.trans (by go_grown) h2⟩

set_option maxHeartbeats 1000000 in
theorem sins_end (v : Value) (l : List Rt) (r : Rt) (q B : Nat) (w : World) (hO : RsO w B v l) (hl : l.length ≤ 256) (hB : B ≤ w.heap.size) (tb : TypeId) (fr : Nat × Nat) (hq : w.heap[q]? = some (.cells (encR r).toArray tb fr)) :
    Calls Try.prog 34 #[v, .int .i64 l.length, .slice (some ⟨q, 0, none⟩) 1 1] w (OwnP B (l ++ [r]) w) := by
  obtain ⟨a, b, cap, rfl, hR, _, hz, hlc, hcm⟩ := hO.s
  have HO := Lib.hid (show _ ∧ _ from ⟨hO, hq⟩)
  unfold maxLen at hcm
  clear hO hq hR hz
  by_cases hc : cap = l.length
  · obtain rfl : cap = l.length := hc
    go_enter Try.func34, Try.ntmps34
    go_wp2_with (at_builtin; refine wpList_append_R rfl (.tmp 23) (.tmp 24) rfl B _ l rfl HO.out.1 q r rfl tb fr HO.out.2 (by omega) hB ?_; intro v' w' h1 h2 _)
    exact bodyPost_ret (v := v') (by simp [results, Try.results34, go_sem]) rfl ⟨v', rfl, h1, h2⟩
  · go_enter Try.func34, Try.ntmps34
    go_wp2_with (at_builtin; refine wpList_append_R rfl (.tmp 23) (.tmp 24) rfl B _ l rfl HO.out.1 q r rfl tb fr HO.out.2 (by omega) hB ?_; intro v' w' h1 h2 _)
    exact bodyPost_ret (v := v') (by simp [results, Try.results34, go_sem]) rfl ⟨v', rfl, h1, h2⟩
end Go.Proofs.Ytjedpemjifcciaa
