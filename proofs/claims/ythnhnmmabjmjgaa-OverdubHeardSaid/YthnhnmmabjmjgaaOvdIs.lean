/- expand by what it is; same (layer 44). -/
import Derived.Test.YthnhnmmabjmjgaaOvdExp
import Derived.Test.YthnhnmmabjmjgaaOvdSem
import Derived.Test.YthnhnmmabjmjgaaOwnRow
namespace Go.Proofs.Ythnhnmmabjmjgaa
open Go.ChangeShapes Go.WideShapes Go.ChangeAt Go.RowKit Go.Shelf

def IV (w : World) (s : Sl) (l : List Int) : Prop := ∃ B, Ints w B (vS s) l
theorem IV.grown {w w' : World} {s : Sl} {l : List Int} (h : IV w s l) (hb : Below w.heap.size w w') : IV w' s l := by obtain ⟨B, h⟩ := h; exact ⟨B, h.below hb (Nat.le_refl _)⟩
theorem IV.row {w : World} {s : Sl} {l : List Int} (h : IV w s l) : ∃ b, Row w s.1 b 0 s.2.1 l ∧ (s.1 = none → s.2.2 = 0) := by
  obtain ⟨B, h⟩ := h
  obtain ⟨a, n, c⟩ := s
  have hl := h.1
  rcases h.2 with ⟨h0, hn⟩ | ⟨g, cap, cur, h1, _⟩
  · obtain ⟨a', b, c', e, hr, _, _⟩ := Ints.row (show Ints w B _ l from h)
    simp [vS] at e h0
    obtain ⟨rfl, rfl, rfl⟩ := e
    exact ⟨b, hr, fun _ => h0.2.2⟩
  · obtain ⟨a', b, c', e, hr, _, _⟩ := Ints.row (show Ints w B _ l from h)
    simp [vS] at e h1
    obtain ⟨rfl, rfl, rfl⟩ := e
    exact ⟨b, hr, fun q => by rw [h1.1] at q; cases q⟩
theorem IV.len {w : World} {s : Sl} {l : List Int} (h : IV w s l) : l.length = s.2.1 := by obtain ⟨b, h, _⟩ := h.row; exact h.len
theorem expand_e {s : Sl} {x : List Dt} {ni : Int} (nn : Nat) (hni : ni = (nn : Int)) (L : List Int) (hL : padL (exG x) nn = L) (hok : ExOk x (nn : Int)) (hat : ∀ i, i < x.length → (nthD x i).2.2.1 ≤ 2199023255552) (hnn : nn ≤ 65536) (w : World) (h : DsV w s x) :
    Calls Try.prog 20 #[vS s, .int .i64 ni] w fun e w' => ∃ s' : Sl, e = .returned (.tuple #[vS s', .bool true]) ∧ IV w' s' L ∧ Below w.heap.size w w' := by
  subst hni
  obtain ⟨b, off, h1, h2⟩ := h
  refine (expand_any s.1 s.2.1 s.2.2 b off x nn w h1 hok hat hnn h2).mono ?_
  rintro e w' ⟨v, rfl, hO, hb⟩
  rw [hL] at hO
  obtain ⟨a, g, c, rfl, -⟩ := hO.row
  exact ⟨(a, L.length, c), rfl, ⟨_, hO⟩, hb⟩
theorem list_eq_int {xs ys : List Int} (hl : xs.length = ys.length) (h : ∀ k, k < xs.length → xs.getD k 0 = ys.getD k 0) : xs = ys := by
  refine List.ext_getElem hl fun k h1 h2 => ?_
  have := h k h1
  simpa [List.getD_eq_getElem?_getD, List.getElem?_eq_getElem h1, List.getElem?_eq_getElem h2] using this
set_option maxRecDepth 100000 in
set_option maxHeartbeats 4000000 in
theorem isame_yes (s s' : Sl) (xs : List Int) (hxs : xs.length ≤ 65536) (w : World) (h : IV w s xs) (h' : IV w s' xs) :
    Calls Try.prog 22 #[vS s, vS s'] w fun e w' => e = .returned (.bool true) ∧ Below w.heap.size w w' := by
  have hl := h.len
  have hl' := h'.len
  obtain ⟨b, hr, -⟩ := h.row
  obtain ⟨b', hr', -⟩ := h'.row
  clear h h'
  obtain ⟨a, n, c⟩ := s
  obtain ⟨a', n', c'⟩ := s'
  dsimp only at hl hl' hr hr'
  obtain rfl : n = n' := hl.symm.trans hl'
  have HM := Lib.hid (show _ ∧ _ from ⟨hr, hr'⟩)
  rw [hl] at hxs
  clear hl hl' hr hr'
  dsimp only [vS]
  go_enter Try.func22, Try.ntmps22
  go_wp2
  go_loopw [13] (fun i wr => ∃ k : Nat, k ≤ n ∧ i = .int .i64 k ∧ Below w.heap.size w wr) (fun i _ => n - (intOf i).toNat)
  case atStart => exact ⟨0, Nat.zero_le _, rfl, Below.refl _ _⟩
  case round =>
    obtain ⟨k, hk, rfl, hb⟩ := hrel
    have HK := Lib.hid hb; clear hb
    by_cases hlt : k < n
    case neg =>
      go_wp2
      go_ret
      exact ⟨rfl, HK.out⟩
    have c0 := (HM.out.1.below HK.out (Nat.le_refl _)).cel k hlt
    have d0 := (HM.out.2.below HK.out (Nat.le_refl _)).cel k hlt
    have ea := HM.out.1.adr (by omega)
    have ea' := HM.out.2.adr (by omega)
    subst ea
    subst ea'
    generalize xs.getD k 0 = x at *
    rw [Nat.zero_add] at c0 d0
    replace c0 := cell_regrown c0
    replace d0 := cell_regrown d0
    have z : (x != x) = false := by simp
    go_wp2
    refine wp_region_quiet_below (by kernel_rfl) (by kernel_rfl) ?_
    repeat (go_big_quiet_step ((fail)))
    refine wpQuiet_nil ?_
    intro WQ hq'
    have hq := of_regrown hq'
    clear hq'
    go_wp2
    go_roundw
    case rel => exact ⟨k + 1, by omega, by go_num, below_after HK.out hq HK.out.size⟩
    case measure => simp [intOf]; omega
end Go.Proofs.Ythnhnmmabjmjgaa
